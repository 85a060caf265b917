import Derived.Test.YtgbkolonhddolaaGreatDoorBpPrs1
import Derived.Deep.RegionHeld3
import Derived.Test.YtgbkolonhddolaaGreatDoorBpLin1
set_option linter.unusedSimpArgs false
set_option linter.unusedVariables false
section
namespace Go.Proofs.YtgbkolonhddolaaGreatDoor.prs
open Go.RowKit nod tok
open rng(R RV info_parts)
open lin(BA)
section
variable{α:Type}{f:α→List Value}{z:Nat}
def dm(f:α→List Value)(l:List α):List Value:=l.flatMap f
theorem eY(l r:List α):dm f (l++r)=dm f l++dm f r:=by simp[dm]
theorem eX(hz:∀x,(f x).length=z)(l:List α):(dm f l).length=l.length*z:=by
 induction l with
 |nil=>simp[dm]
 |cons x l ih=>rw[show dm f (x::l)=f x++dm f l from rfl,List.length_append,hz,ih,List.length_cons,Nat.add_mul];omega
/--The last element, and what comes of it when a cell of it is set. -/
theorem sS(hz:∀x,(f x).length=z)(l:List α)(x:α)(j:Nat)(u:Value)(h:(f x)[j]?=some u):(dm f (l++[x]))[l.length*z+j]?=some u:=by
 rw[eY,List.getElem?_append_right (by rw[eX hz];omega),eX hz,show l.length*z+j-l.length*z=j by omega]
 simpa[dm]using h
theorem vR(hz:∀x,(f x).length=z)(l:List α)(x y:α)(j:Nat)(u:Value)(h:(f x).set j u=f y):(dm f (l++[x])).set (l.length*z+j) u=dm f (l++[y]):=by
 rw[eY,eY,List.set_append_right _ _ (by rw[eX hz];omega),eX hz,show l.length*z+j-l.length*z=j by omega]
 simp only[dm,List.flatMap_cons,List.flatMap_nil,List.append_nil,h]
end
/--A slice as a value has it. -/
abbrev SV:Type:=Option Addr×Nat×Nat
def sv(s:SV):Value:=.slice s.1 s.2.1 s.2.2
/--A body: of its brackets' node the kind, the mode, the number and the name; the rows. -/
structure Bv where
 k:Int
 m:Int
 a:Int
 nm:List UInt8
 ah:SV
 pt:SV
def c10(b:Bv):List Value:=[.int .i64 b.k,.int .i64 b.m,.int .i64 b.a,.int .i64 0,.bool false,.string (BA b.nm),.slice none 0 0,.slice none 0 0,.slice b.ah.1 b.ah.2.1 b.ah.2.2,.slice b.pt.1 b.pt.2.1 b.pt.2.2]
theorem xM(b:Bv):(c10 b).length=10:=rfl
/--A class. -/
structure Kv where
 neg:Bool
 mode:Int
 left:Nv
 mem:SV
def c11(c:Kv):List Value:=[.bool c.neg,.int .i64 c.mode,.int .i64 c.left.k,.int .i64 c.left.m,.int .i64 c.left.a,.int .i64 c.left.b,.bool c.left.g,.string c.left.nm,.slice none 0 0,.slice c.left.ka c.left.kn c.left.kc,.slice c.mem.1 c.mem.2.1 c.mem.2.2]
theorem xL(c:Kv):(c11 c).length=11:=rfl
def sN(l:List UInt8):Value:=.string (BA l)
/--What takes the next token. -/
def nextV(pb:Nat)(n:Nat):Value:=.func (.func (match n with|0=>21|1=>44|2=>66|_=>83)) #[.pointer (some ⟨pb,0,none⟩)] #[]
/--Blocks that the parser has nothing to do with, tokens' and faults': they stay as they are. -/
class Gh where
 g:Nat→Option Obj
 ty:∀k o,g k=some o→∃cs t fr,o=.cells cs t fr∧(t=66∨t=29)
@[reducible] def CU:Gh:=⟨fun _=>none,fun _ _ h=>by cases h⟩
def je(gh:Gh)(w:World):Prop:=∀k o,gh.g k=some o→w.heap[k]?=some o
def Oth(w:World)(k:Nat):Prop:=∃cs t fr,w.heap[k]?=some (.cells cs t fr)∧(t=66∨t=29)
theorem je.oth{gh:Gh}{w:World}{k:Nat}{o:Obj}(h:je gh w)(e:gh.g k=some o):Oth w k:=by
 obtain⟨cs,t,fr,rfl,ht⟩:=gh.ty k o e
 exact⟨cs,t,fr,h k _ e,ht⟩
theorem je.lt{gh:Gh}{w:World}{k:Nat}{o:Obj}(h:je gh w)(e:gh.g k=some o):k<w.heap.size:=(Array.getElem?_eq_some_iff.1 (h k o e)).1
theorem je.grown{gh:Gh}{w w':World}{x:Option Nat}(h:je gh w)(hg:w.grownBy w' x)(hx:∀k,x=some k→¬Oth w k):je gh w':=fun k o e=>
 (hg.block k (h.lt e) (fun e'=>hx k e'.symm (h.oth e))).trans (h k o e)
theorem je.below{gh:Gh}{w w':World}(h:je gh w)(hb:Below w.heap.size w w'):je gh w':=fun k o e=>(hb.block k (h.lt e)).trans (h k o e)
theorem lS{w:World}{g:Nat}{cs:Array Value}{t:TypeId}{fr:Nat×Nat}(h:w.heap[g]?=some (.cells cs t fr))(ht:¬(t=66∨t=29)):¬Oth w g:=by
 rintro⟨_,_,_,h',ht'⟩
 rw[h]at h'
 cases h'
 exact ht ht'
theorem oh{w:World}{B z n k:Nat}{t:TypeId}{v:Value}{xs:List Value}(h:w.ownsRow B t z v n xs)(ht:¬(t=66∨t=29))(e:v.ownBlock=some k):¬Oth w k:=by
 rcases h.2 with⟨rfl,_⟩|⟨g,cap,cur,rfl,_,hg,_⟩
 ·cases e
 ·cases e;exact lS hg ht
theorem isN_oth{w:World}{k:Nat}(h:lh w k):¬Oth w k:=by obtain⟨_,_,h⟩:=h;exact lS h (by decide)
section
variable[gh:Gh]
/--The zf own blocks: n says what takes the next token. -/
structure Px(B:Nat)(w:World)(pb n:Nat)(nm:List (List UInt8))(bl:List Bv)(cl:List Kv)(bv cv nv:Value):Prop where
 blk:Bk w pb #[nextV pb n,bv,cv,nv] 64
 pB:B≤pb
 bo:w.ownsRow B 58 10 bv bl.length (dm c10 bl.reverse)
 co:w.ownsRow B 86 11 cv cl.length (dm c11 cl.reverse)
 no:w.ownsRow B 9 1 nv nm.length (nm.map sN)
 gh:je gh w
end
theorem dC{w:World}{t t':TypeId}{B B' n n' z z':Nat}{v v':Value}{xs xs':List Value}(h:w.ownsRow B t z v n xs)(h':w.ownsRow B' t' z' v' n' xs')(ht:t≠t'):v.ownBlock=none∨v.ownBlock≠v'.ownBlock:=by
 rcases h.2 with⟨rfl,_⟩|⟨g,cap,cur,rfl,_,hg,_⟩
 ·exact .inl rfl
 ·rcases h'.2 with⟨rfl,_⟩|⟨g',cap',cur',rfl,_,hg',_⟩
  ·exact .inr (fun e=>by cases e)
  ·refine .inr (fun e=>?_)
   obtain rfl:g=g':=by simpa[Value.ownBlock]using e
   rw[hg]at hg';cases hg';exact ht rfl
theorem az{w:World}{t t':TypeId}{B n z pb:Nat}{v:Value}{xs:List Value}{cs:Array Value}(h:w.ownsRow B t z v n xs)(b:Bk w pb cs t')(ht:t≠t'):v.ownBlock=none∨v.ownBlock≠some pb:=by
 rcases h.2 with⟨rfl,_⟩|⟨g,cap,cur,rfl,_,hg,_⟩
 ·exact .inl rfl
 ·refine .inr (fun e=>?_)
  obtain rfl:g=pb:=by simpa[Value.ownBlock]using e
  unfold Bk at b
  rw[hg]at b;cases b;exact ht rfl
theorem pJ{w:World}{t:TypeId}{B n z:Nat}{v:Value}{xs:List Value}{x:Option Nat}(h:w.ownsRow B t z v n xs)(hx:∀k,x=some k→lh w k)(ht:t≠26):v.ownBlock=none∨v.ownBlock≠x:=by
 cases hv:v.ownBlock with
 |none=>exact .inl rfl
 |some g=>exact .inr fun e=>bT h ht hv (hx g e.symm)
section
variable[gh:Gh]
theorem Px.below{B:Nat}{w w':World}{pb n nm bl cl bv cv nv}(h:Px B w pb n nm bl cl bv cv nv)(hb:Below w.heap.size w w'):Px B w' pb n nm bl cl bv cv nv:=
 ⟨h.blk.on hb,h.pB,rng.own_below' h.bo hb,rng.own_below' h.co hb,rng.own_below' h.no hb,h.gh.below hb⟩
/--A row of nodes has grown. -/
theorem Px.grown{B:Nat}{w w':World}{pb n nm bl cl bv cv nv}{x:Option Nat}(h:Px B w pb n nm bl cl bv cv nv)(hg:w.grownBy w' x)(hx:∀k,x=some k→lh w k):Px B w' pb n nm bl cl bv cv nv:=
 ⟨(hg.block pb h.blk.lt (fun e=>qV h.blk (by decide) (hx pb e.symm))).trans h.blk,h.pB,h.bo.kept hg (pJ h.bo hx (by decide)),h.co.kept hg (pJ h.co hx (by decide)),h.no.kept hg (pJ h.no hx (by decide)),h.gh.grown hg fun k e=>isN_oth (hx k e)⟩
theorem Px.next{B:Nat}{w:World}{pb n nm bl cl bv cv nv}(h:Px B w pb n nm bl cl bv cv nv)(n':Nat):Px B (w.setCell ⟨pb,0,none⟩ (nextV pb n')) pb n' nm bl cl bv cv nv:=
 ⟨by have:=h.blk.set 0 (nextV pb n');simpa using this,h.pB,h.bo.kept (ay w pb 0 _) (az h.bo h.blk (by decide)),h.co.kept (ay w pb 0 _) (az h.co h.blk (by decide)),h.no.kept (ay w pb 0 _) (az h.no h.blk (by decide)),h.gh.grown (ay w pb 0 _) fun k e=>by cases e;exact lS h.blk (by decide)⟩
end
theorem lD{w:World}{t:TypeId}{B n z:Nat}{v:Value}{xs:List Value}(h:w.ownsRow B t z v n xs)(h0:0<n):∃g cap,v=.slice (some ⟨g,0,none⟩) n cap∧B≤g∧g<w.heap.size∧n≤cap∧cap≤maxLen:=by
 rcases h.2 with⟨_,e⟩|⟨g,cap,cur,rfl,hB,hg,h1,h2,_⟩
 ·omega
 ·exact⟨g,cap,rfl,hB,(Array.getElem?_eq_some_iff.1 hg).1,h1,h2⟩
section
variable[gh:Gh]
/--The innermost body's cells. -/
theorem Px.body{B:Nat}{w:World}{pb n nm b bl cl bv cv nv}(h:Px B w pb n nm (b::bl) cl bv cv nv):∃g cap,bv=.slice (some ⟨g,0,none⟩) (bl.length+1) cap∧B≤g∧g<w.heap.size∧bl.length+1≤cap∧cap≤maxLen∧
  (∀j u,(c10 b)[j]?=some u→w.cell? ⟨g,bl.length*10+j,none⟩=some u)∧∀j,w.frozen? ⟨g,j,none⟩=false:=by
 have h1:=h.bo
 rw[List.length_cons,List.reverse_cons]at h1
 obtain⟨g,cap,rfl,hB,hg,h2,h3⟩:=lD h1 (by omega)
 refine⟨g,cap,rfl,hB,hg,h2,h3,fun j u hu=>?_,fun j=>h1.frozenAt j⟩
 have hj:j<10:=(List.getElem?_eq_some_iff.1 hu).1
 rw[h1.cellAt _ (by omega)]
 have:=sS xM bl.reverse b j u hu
 rwa[List.length_reverse]at this
theorem Px.class{B:Nat}{w:World}{pb n nm bl c cl bv cv nv}(h:Px B w pb n nm bl (c::cl) bv cv nv):∃g cap,cv=.slice (some ⟨g,0,none⟩) (cl.length+1) cap∧B≤g∧g<w.heap.size∧cl.length+1≤cap∧cap≤maxLen∧
  (∀j u,(c11 c)[j]?=some u→w.cell? ⟨g,cl.length*11+j,none⟩=some u)∧∀j,w.frozen? ⟨g,j,none⟩=false:=by
 have h1:=h.co
 rw[List.length_cons,List.reverse_cons]at h1
 obtain⟨g,cap,rfl,hB,hg,h2,h3⟩:=lD h1 (by omega)
 refine⟨g,cap,rfl,hB,hg,h2,h3,fun j u hu=>?_,fun j=>h1.frozenAt j⟩
 have hj:j<11:=(List.getElem?_eq_some_iff.1 hu).1
 rw[h1.cellAt _ (by omega)]
 have:=sS xL cl.reverse c j u hu
 rwa[List.length_reverse]at this
/--A cell of the innermost body, set. -/
theorem Px.rM{B:Nat}{w:World}{pb n nm b bl cl cv nv}{g cap:Nat}(h:Px B w pb n nm (b::bl) cl (.slice (some ⟨g,0,none⟩) (bl.length+1) cap) cv nv)(b':Bv)(j o:Nat)(u:Value)(ho:o=bl.length*10+j)(hu:(c10 b).set j u=c10 b'):
  Px B (w.setCell ⟨g,o,none⟩ u) pb n nm (b'::bl) cl (.slice (some ⟨g,0,none⟩) (bl.length+1) cap) cv nv∧NU none w (w.setCell ⟨g,o,none⟩ u):=by
 subst ho
 have h1:=h.bo
 rw[List.length_cons,List.reverse_cons]at h1
 obtain⟨s1,s2⟩:=h1.stored (bl.length*10+j) u
 have e:=vR xM bl.reverse b b' j u hu
 rw[List.length_reverse]at e
 rw[e]at s1
 have hgb:(Value.slice (some ⟨g,0,none⟩) (bl.length+1) cap).ownBlock=some g:=rfl
 refine⟨⟨?_,h.pB,by rw[List.length_cons,List.reverse_cons];exact s1,h.co.kept s2 ?_,h.no.kept s2 ?_,h.gh.grown s2 fun k e=>oh h1 (by decide) e⟩,NU.iU s2 fun k e hk=>?_⟩
 ·refine h.blk.apart (fun e=>?_) u
  rcases az h1 h.blk (by decide)with e'|e'
  ·cases e'
  ·exact e' (by rw[hgb,e])
 ·have:=dC h.co h1 (by decide);rwa[hgb]at this
 ·have:=dC h.no h1 (by decide);rwa[hgb]at this
 ·cases e;exact bT h1 (by decide) hgb hk
theorem Px.cO{B:Nat}{w:World}{pb n nm bl c cl bv nv}{g cap:Nat}(h:Px B w pb n nm bl (c::cl) bv (.slice (some ⟨g,0,none⟩) (cl.length+1) cap) nv)(c':Kv)(j o:Nat)(u:Value)(ho:o=cl.length*11+j)(hu:(c11 c).set j u=c11 c'):
  Px B (w.setCell ⟨g,o,none⟩ u) pb n nm bl (c'::cl) bv (.slice (some ⟨g,0,none⟩) (cl.length+1) cap) nv∧NU none w (w.setCell ⟨g,o,none⟩ u):=by
 subst ho
 have h1:=h.co
 rw[List.length_cons,List.reverse_cons]at h1
 obtain⟨s1,s2⟩:=h1.stored (cl.length*11+j) u
 have e:=vR xL cl.reverse c c' j u hu
 rw[List.length_reverse]at e
 rw[e]at s1
 have hgb:(Value.slice (some ⟨g,0,none⟩) (cl.length+1) cap).ownBlock=some g:=rfl
 refine⟨⟨?_,h.pB,h.bo.kept s2 ?_,by rw[List.length_cons,List.reverse_cons];exact s1,h.no.kept s2 ?_,h.gh.grown s2 fun k e=>oh h1 (by decide) e⟩,NU.iU s2 fun k e hk=>?_⟩
 ·refine h.blk.apart (fun e=>?_) u
  rcases az h1 h.blk (by decide)with e'|e'
  ·cases e'
  ·exact e' (by rw[hgb,e])
 ·have:=dC h.bo h1 (by decide);rwa[hgb]at this
 ·have:=dC h.no h1 (by decide);rwa[hgb]at this
 ·cases e;exact bT h1 (by decide) hgb hk
end
/--A field of the zf block, set. -/
theorem Px.jT{B:Nat}{w:World}{pb:Nat}(cs:Array Value)(h:Bk w pb cs 64)(i:Nat)(u:Value):NU none w (w.setCell ⟨pb,i,none⟩ u):=NU.iU (ay w pb i u) fun k e hk=>by cases e;exact qV h (by decide) hk
/--Bodies in memory, and as the machine has them. -/
inductive BR:List Bv→List Bd→Prop
 |nil:BR [] []
 |cons(b:Bv)(d:Bd)(bl:List Bv)(bs:List Bd)(h:d.iJ=nd b.k b.m b.a 0 false b.nm [])(hi:dQ b.k∧dQ b.m∧dQ b.a)(hn:(BA b.nm).size≤maxLen)(hr:BR bl bs):BR (b::bl) (d::bs)
/--Classes, likewise. -/
inductive CX(P:Nat→Prop)(w:World):List Kv→List Cl→Prop
 |nil:CX P w [] []
 |cons(c:Kv)(d:Cl)(cl:List Kv)(cs:List Cl)(h1:d.neg=c.neg)(h2:d.mode=c.mode)(hi:dQ c.mode)(h3:Fz P w d.left (a8 c.left))(hr:CX P w cl cs):CX P w (c::cl) (d::cs)
theorem CX.imp{P P':Nat→Prop}{w w':World}{cl:List Kv}{cs:List Cl}(h:CX P w cl cs)(hf:∀t v,Fz P w t v→Fz P' w' t v):CX P' w' cl cs:=by
 induction h with
 |nil=>exact .nil
 |cons c d cl cs h1 h2 hi h3 hr ih=>exact .cons c d cl cs h1 h2 hi (hf _ _ h3) ih
def rowsB:List Bv→List Bd→List Lr
 |b::bl,d::bs=>(.slice b.ah.1 b.ah.2.1 b.ah.2.2,d.dH)::(.slice b.pt.1 b.pt.2.1 b.pt.2.2,d.pts)::rowsB bl bs
 |_,_=>[]
def rowsC:List Kv→List Cl→List Lr
 |c::cl,d::cs=>(.slice c.mem.1 c.mem.2.1 c.mem.2.2,d.mem)::rowsC cl cs
 |_,_=>[]
def rowsOf(bl:List Bv)(bs:List Bd)(cl:List Kv)(cs:List Cl):List Lr:=rowsB bl bs++rowsC cl cs
section
variable[gh:Gh]
/--In block pb lies the parser in the state s; K bounds how much it has. -/
structure Sx(K B:Nat)(w:World)(pb:Nat)(s:PS)(bl:List Bv)(cl:List Kv)(bv cv nv:Value):Prop where
 px:Px B w pb s.next s.nm bl cl bv cv nv
 br:BR bl s.bs
 cx:CX (Dd B w (rowsOf bl s.bs cl s.cs)) w cl s.cs
 rows:Rows B w (rowsOf bl s.bs cl s.cs)
 lb:bl.length≤K+1
 lc:cl.length≤K
 ln:s.nm.length≤K
 lr:∀r∈rowsOf bl s.bs cl s.cs,r.2.length≤K
theorem Sx.below{K B:Nat}{w w':World}{pb s bl cl bv cv nv}(h:Sx K B w pb s bl cl bv cv nv)(hb:Below w.heap.size w w'):Sx K B w' pb s bl cl bv cv nv:=
 ⟨h.px.below hb,h.br,h.cx.imp fun t v f=>f.nu (NU.of_below hb),h.rows.nu (NU.of_below hb),h.lb,h.lc,h.ln,h.lr⟩
theorem Sx.next{K B:Nat}{w:World}{pb s bl cl bv cv nv}(h:Sx K B w pb s bl cl bv cv nv)(n:Nat):Sx K B (w.setCell ⟨pb,0,none⟩ (nextV pb n)) pb ⟨n,s.bs,s.cs,s.nm⟩ bl cl bv cv nv:=
 have hu:=Px.jT (B:=B) _ h.px.blk 0 (nextV pb n)
 ⟨h.px.next n,h.br,h.cx.imp fun t v f=>f.nu hu,h.rows.nu hu,h.lb,h.lc,h.ln,h.lr⟩
theorem Sx.more{K K' B:Nat}{w:World}{pb s bl cl bv cv nv}(h:Sx K B w pb s bl cl bv cv nv)(hk:K≤K'):Sx K' B w pb s bl cl bv cv nv:=
 ⟨h.px,h.br,h.cx,h.rows,by have:=h.lb;omega,by have:=h.lc;omega,by have:=h.ln;omega,fun r hr=>by have:=h.lr r hr;omega⟩
end
/--Of other blocks. -/
theorem Sx.ghost{gh gh':Gh}{K B:Nat}{w:World}{pb s bl cl bv cv nv}(h:Sx (gh:=gh) K B w pb s bl cl bv cv nv)(hg:je gh' w):Sx (gh:=gh') K B w pb s bl cl bv cv nv:=by
 rcases h with⟨⟨a1,a2,a3,a4,a5,_⟩,b1,b2,b3,b4,b5,b6,b7⟩
 exact⟨⟨a1,a2,a3,a4,a5,hg⟩,b1,b2,b3,b4,b5,b6,b7⟩
theorem BR.len{bl:List Bv}{bs:List Bd}(h:BR bl bs):bl.length=bs.length:=by
 induction h with
 |nil=>rfl
 |cons _ _ _ _ _ _ _ _ ih=>simp[ih]
theorem CX.len{P:Nat→Prop}{w:World}{cl:List Kv}{cs:List Cl}(h:CX P w cl cs):cl.length=cs.length:=by
 induction h with
 |nil=>rfl
 |cons _ _ _ _ _ _ _ _ _ ih=>simp[ih]
end Go.Proofs.YtgbkolonhddolaaGreatDoor.prs
end
section
namespace Go.Proofs.YtgbkolonhddolaaGreatDoor.prs
section
variable{P:Program}{ops:Array Oper}{Q:Exit→Act→World→Prop}{md:Region.Mode}{S:World→Prop}{k:Nat}
/--Whatever order is picked: S holds behind each operation that comes up ahead of number k. -/
def dB(P:Program)(md:Region.Mode)(ops:Array Oper)(Q:Exit→Act→World→Prop)(S:World→Prop)(k:Nat):Nat→Array Bool→Act→World→Prop
 |0,listed,a,w=>Region.ready md ops listed=[]∧Q .normal a w
 |fuel+1,listed,a,w=>(Region.ready md ops listed=[]→Q .normal a w)∧
  ∀i∈Region.ready md ops listed,wpOp P ops Q i (fun a' w'=>if i=k then wpAny P md ops Q fuel (listed.setIfInBounds i true) a' w' else S w'∧dB P md ops Q S k fuel (listed.setIfInBounds i true) a' w') a w
theorem rz:∀(fuel:Nat)(listed:Array Bool)(a:Act)(w:World),dB P md ops Q S k fuel listed a w→wpAny P md ops Q fuel listed a w
 |0,_,_,_,h=>h
 |fuel+1,_,_,_,h=>⟨h.1,fun i hi=>wpOp_mono (fun a' w' h'=>by
  by_cases e:i=k
  ·rw[if_pos e]at h';exact h'
  ·rw[if_neg e]at h';exact rz fuel _ a' w' h'.2) (h.2 i hi)⟩
theorem wK{i:Nat}{oi ok:Oper}{v:Value}(hi:ops[i]?=some oi)(hsel:∀(j:Nat)(o:Oper)cs b,ops[j]?=some o→o.op≠.select cs b)
  (hQ:∀c a w,Q (.panic c) (a.put oi.dst v) w→Q (.panic c) a w)(hik:i≠k)(hok:ops[k]?=some ok)(hw:∃e∈ok.after,Region.binds md e=true∧e.on=i):
  ∀(fuel:Nat)(listed:Array Bool)(a:Act)(w:World),
   (∀j oj,ops[j]?=some oj→j≠i→listed.getD j true=false→(∀e∈oj.after,Region.binds md e=true→e.on≠i)→oi.apart ops oj=true)→
   i∈Region.ready md ops listed→YieldsIf P ops S oi v a→S w→
   dB P md ops Q S k fuel (listed.setIfInBounds i true) (a.put oi.dst v) w→dB P md ops Q S k (fuel+1) listed a w:=by
 intro fuel
 induction fuel with
 |zero=>
  intro listed a w _ hr hy hS H
  refine⟨fun h=>(by rw[h]at hr;cases hr),fun j hj=>?_⟩
  by_cases hji:j=i
  ·subst hji;exact hy.wpOp hi hS (by rw[if_neg hik];exact⟨hS,H⟩)
  ·have:=ready_mono hj hji
   rw[H.1]at this
   cases this
 |succ fuel ih=>
  intro listed a w hfree hr hy hS H
  refine⟨fun h=>(by rw[h]at hr;cases hr),fun j hj=>?_⟩
  by_cases hji:j=i
  ·subst hji;exact hy.wpOp hi hS (by rw[if_neg hik];exact⟨hS,H⟩)
  ·have h1:=H.2 j (ready_mono hj hji)
   obtain⟨hjun,oj,hoj,hall⟩:=mem_ready.1 hj
   have hnot:∀e∈oj.after,Region.binds md e=true→e.on≠i:=fun e he hb heq=>by
    have h1:=hall e he hb
    have h0:=(mem_ready.1 hr).1
    rw[heq]at h1
    rcases Nat.lt_or_ge i listed.size with h'|h'
    ·simp[h']at h0 h1;rw[h0]at h1;cases h1
    ·simp[Array.getElem?_eq_none h']at h1
   by_cases hjk:j=k
   ·exfalso
    subst hjk
    rw[hoj]at hok
    cases hok
    obtain⟨e,he,hb,heq⟩:=hw
    exact hnot e he hb heq
   simp only[if_neg hjk]at h1⊢
   have h2:=wpOp_putIf hoj (hfree j oj hoj hji hjun hnot) (fun cs b=>hsel i oi cs b hi) (fun cs b=>hsel j oj cs b hoj) hQ hy h1
   have hfree':∀k ok,ops[k]?=some ok→k≠i→(listed.setIfInBounds j true).getD k true=false→
     (∀e∈ok.after,Region.binds md e=true→e.on≠i)→oi.apart ops ok=true:=fun k ok hk hki hun hno=>by
    refine hfree k ok hk hki ?_ hno
    by_cases hjk:j=k
    ·subst hjk;exact hjun
    ·rw[getD_set_ne true hjk]at hun;exact hun
   refine wpOp_mono (fun a' w' h3=>⟨h3.2.1,ih (listed.setIfInBounds j true) a' w' hfree' (ready_mono hr (Ne.symm hji)) h3.1 h3.2.1 ?_⟩) h2
   rw[Array.setIfInBounds_comm _ _ hji]
   exact h3.2.2
/--Number k waits for number i. -/
def waits(md:Region.Mode)(ops:Array Oper)(k i:Nat):Bool:=match ops[k]? with
 |some o=>o.after.any (fun e=>Region.binds md e&&e.on==i)
 |none=>false
theorem qm{i:Nat}{oi:Oper}{v:Value}{fuel:Nat}{listed:Array Bool}{a:Act}{w:World}(hi:ops[i]?=some oi)
  (hs:Region.noSelect ops=true)(hf:Region.free md ops listed i=true)(hr:(Region.ready md ops listed).contains i=true)(hik:i≠k)(hw:waits md ops k i=true)
  (hQ:∀c a w,Q (.panic c) (a.put oi.dst v) w→Q (.panic c) a w)(hy:YieldsIf P ops S oi v a)(hS:S w)
  (h:dB P md ops Q S k fuel (listed.setIfInBounds i true) (a.put oi.dst v) w):dB P md ops Q S k (fuel+1) listed a w:=by
 unfold waits at hw
 cases hk:ops[k]? with
 |none=>rw[hk]at hw;cases hw
 |some ok=>
  rw[hk]at hw
  have hw:∃(j:Nat),∃h,Region.binds md ok.after[j]=true∧ok.after[j].on=i:=by simpa using hw
  obtain⟨j,hj,h1,h2⟩:=hw
  exact wK hi (Region.noSelect_spec hs) hQ hik hk ⟨_,Array.getElem_mem hj,h1,h2⟩ fuel listed a w (Region.free_spec hi hf) (by simpa using hr) hy hS h
theorem aG{j:Nat}{o:Oper}{fuel:Nat}{listed:Array Bool}{a:Act}{w:World}(hr:Region.ready md ops listed=[j])(hj:j≠k)(ho:ops[j]?=some o)
  (h:∀K':Act→World→Prop,Shut (∀a w,S w→(S w→dB P md ops Q S k fuel (listed.setIfInBounds j true) a w)→K' a w)→if Region.wanted o (yielded ops a.tmps)=true then Oper.wp P o a w K' Q else K' (a.put o.dst undef) w):
  dB P md ops Q S k (fuel+1) listed a w:=
 ⟨fun h0=>(by rw[hr]at h0;cases h0),fun i hi=>by
  rw[hr]at hi
  obtain rfl:i=j:=by simpa using hi
  simp only[if_neg hj]
  exact wpOp_step ho fun K' hK=>h K' (fun a w hS hW=>hK a w ⟨hS,hW hS⟩)⟩
theorem Be{i j:Nat}{o o':Oper}{fuel:Nat}{listed:Array Bool}{a:Act}{w:World}(hr:Region.ready md ops listed=[i,j])(hi:i≠k)(hj:j≠k)(ho:ops[i]?=some o)(ho':ops[j]?=some o')
  (h:∀K':Act→World→Prop,Shut (∀a w,S w→(S w→dB P md ops Q S k fuel (listed.setIfInBounds i true) a w)→K' a w)→if Region.wanted o (yielded ops a.tmps)=true then Oper.wp P o a w K' Q else K' (a.put o.dst undef) w)
  (h':∀K':Act→World→Prop,Shut (∀a w,S w→(S w→dB P md ops Q S k fuel (listed.setIfInBounds j true) a w)→K' a w)→if Region.wanted o' (yielded ops a.tmps)=true then Oper.wp P o' a w K' Q else K' (a.put o'.dst undef) w):
  dB P md ops Q S k (fuel+1) listed a w:=
 ⟨fun h0=>(by rw[hr]at h0;cases h0),fun x hx=>by
  rw[hr]at hx
  rcases List.mem_cons.1 hx with rfl|hx
  ·simp only[if_neg hi]
   exact wpOp_step ho fun K' hK=>h K' (fun a w hS hW=>hK a w ⟨hS,hW hS⟩)
  ·obtain rfl:x=j:=by simpa using hx
   simp only[if_neg hj]
   exact wpOp_step ho' fun K' hK=>h' K' (fun a w hS hW=>hK a w ⟨hS,hW hS⟩)⟩
theorem aU{o:Oper}{fuel:Nat}{listed:Array Bool}{a:Act}{w:World}(hr:Region.ready md ops listed=[k])(ho:ops[k]?=some o)
  (h:∀K':Act→World→Prop,Shut (∀a w,wpAny P md ops Q fuel (listed.setIfInBounds k true) a w→K' a w)→if Region.wanted o (yielded ops a.tmps)=true then Oper.wp P o a w K' Q else K' (a.put o.dst undef) w):
  dB P md ops Q S k (fuel+1) listed a w:=
 ⟨fun h0=>(by rw[hr]at h0;cases h0),fun i hi=>by
  rw[hr]at hi
  obtain rfl:i=k:=by simpa using hi
  simp only[if_true]
  exact wpOp_step ho fun K' hK=>h K' (fun a w hW=>hK a w hW)⟩
theorem aZ(k:Nat)(S:World→Prop){id:Nat}{a:Act}{w:World}(hm:P.follows .mixedOrders=true)(hS:S w.drew)
  (h:S w.drew→dB P .any ops Q S k ops.size (Array.replicate ops.size false) a w.drew):(Code.region id ops true).wp P Q a w:=
 wp_region_any hm (rz _ _ _ _ (h hS))
end
end Go.Proofs.YtgbkolonhddolaaGreatDoor.prs
end
section
namespace Go.Proofs.YtgbkolonhddolaaGreatDoor.prs
section
variable{P:Program}{ops:Array Oper}{Q:Exit→Act→World→Prop}{md:Region.Mode}{S:World→Prop}{k:Nat}
theorem EU{oi:Oper}{v:Value}{a:Act}(h:YieldsIf P ops (fun _=>True) oi v a):Yields P ops oi v a:=by
 unfold YieldsIf at h
 unfold Yields
 simpa using h
theorem uq{i:Nat}{oi:Oper}{v:Value}(hi:ops[i]?=some oi)(hsel:∀(j:Nat)(o:Oper)cs b,ops[j]?=some o→o.op≠.select cs b)
  (hQ:∀c a w,Q (.panic c) (a.put oi.dst v) w→Q (.panic c) a w)(hik:i≠k):
  ∀(fuel:Nat)(listed:Array Bool)(a:Act)(w:World),
   (∀j oj,ops[j]?=some oj→j≠i→listed.getD j true=false→(∀e∈oj.after,Region.binds md e=true→e.on≠i)→oi.apart ops oj=true)→
   i∈Region.ready md ops listed→YieldsIf P ops (fun _=>True) oi v a→S w→
   dB P md ops Q S k fuel (listed.setIfInBounds i true) (a.put oi.dst v) w→dB P md ops Q S k (fuel+1) listed a w:=by
 intro fuel
 induction fuel with
 |zero=>
  intro listed a w _ hr hy hS H
  refine⟨fun h=>(by rw[h]at hr;cases hr),fun j hj=>?_⟩
  by_cases hji:j=i
  ·subst hji;exact hy.wpOp hi True.intro (by rw[if_neg hik];exact⟨hS,H⟩)
  ·have:=ready_mono hj hji
   rw[H.1]at this
   cases this
 |succ fuel ih=>
  intro listed a w hfree hr hy hS H
  refine⟨fun h=>(by rw[h]at hr;cases hr),fun j hj=>?_⟩
  by_cases hji:j=i
  ·subst hji;exact hy.wpOp hi True.intro (by rw[if_neg hik];exact⟨hS,H⟩)
  ·have h1:=H.2 j (ready_mono hj hji)
   obtain⟨hjun,oj,hoj,hall⟩:=mem_ready.1 hj
   have hnot:∀e∈oj.after,Region.binds md e=true→e.on≠i:=fun e he hb heq=>by
    have h1:=hall e he hb
    have h0:=(mem_ready.1 hr).1
    rw[heq]at h1
    rcases Nat.lt_or_ge i listed.size with h'|h'
    ·simp[h']at h0 h1;rw[h0]at h1;cases h1
    ·simp[Array.getElem?_eq_none h']at h1
   have hfree':∀k ok,ops[k]?=some ok→k≠i→(listed.setIfInBounds j true).getD k true=false→
     (∀e∈ok.after,Region.binds md e=true→e.on≠i)→oi.apart ops ok=true:=fun k ok hk hki hun hno=>by
    refine hfree k ok hk hki ?_ hno
    by_cases hjk:j=k
    ·subst hjk;exact hjun
    ·rw[getD_set_ne true hjk]at hun;exact hun
   have h2:=wpOp_putIf (S:=fun _=>True) hoj (hfree j oj hoj hji hjun hnot) (fun cs b=>hsel i oi cs b hi) (fun cs b=>hsel j oj cs b hoj) hQ hy h1
   refine wpOp_mono (fun a' w' h3=>?_) h2
   by_cases hjk:j=k
   ·have h4:=h3.2
    rw[if_pos hjk]at h4⊢
    refine wpAny_first hi hsel hQ fuel (listed.setIfInBounds j true) a' w' hfree' (ready_mono hr (Ne.symm hji)) (EU h3.1) ?_
    rw[Array.setIfInBounds_comm _ _ hji]
    exact h4
   ·have h4:=h3.2
    rw[if_neg hjk]at h4⊢
    refine⟨h4.1,ih (listed.setIfInBounds j true) a' w' hfree' (ready_mono hr (Ne.symm hji)) h3.1 h4.1 ?_⟩
    rw[Array.setIfInBounds_comm _ _ hji]
    exact h4.2
theorem jf{i:Nat}{oi:Oper}{v:Value}{fuel:Nat}{listed:Array Bool}{a:Act}{w:World}(hi:ops[i]?=some oi)
  (hs:Region.noSelect ops=true)(hf:Region.free md ops listed i=true)(hr:(Region.ready md ops listed).contains i=true)(hik:i≠k)
  (hQ:∀c a w,Q (.panic c) (a.put oi.dst v) w→Q (.panic c) a w)(hy:YieldsIf P ops (fun _=>True) oi v a)(hS:S w)
  (h:dB P md ops Q S k fuel (listed.setIfInBounds i true) (a.put oi.dst v) w):dB P md ops Q S k (fuel+1) listed a w:=
 uq hi (Region.noSelect_spec hs) hQ hik fuel listed a w (Region.free_spec hi hf) (by simpa using hr) hy hS h
end
end Go.Proofs.YtgbkolonhddolaaGreatDoor.prs
end
section
namespace Go.Proofs.YtgbkolonhddolaaGreatDoor.prs
open lin(Ul lV xS jg okT okG UH)
section
variable{P:Program}{ops:Array Oper}{Q:Exit→Act→World→Prop}{md:Region.Mode}{S:World→Prop}{k n:Nat}{a:Act}{w:World}
def UK(P:Program)(md:Region.Mode)(ops:Array Oper)(Q:Exit→Act→World→Prop)(S:World→Prop)(k n:Nat)(a:Act)(w:World):Prop:=dB P md ops Q S k (ops.size-n) (Ul n (ops.size-n)) a w
def okP(md:Region.Mode)(ops:Array Oper)(k n:Nat):Bool:=okT md ops n&&n !=k
def okK(md:Region.Mode)(ops:Array Oper)(k n:Nat):Bool:=okP md ops k n&&waits md ops k n
def okO(md:Region.Mode)(ops:Array Oper)(k n:Nat):Bool:=Region.ready md ops (Ul n (ops.size-n))==[n]&&n !=k
theorem UK.begin(k:Nat)(S:World→Prop){id:Nat}(hm:P.follows .mixedOrders=true)(hS:S w.drew)(h:S w.drew→UK P .any ops (NoPanic Q) S k 0 a w.drew):(Code.region id ops true).wp P Q a w:=
 wp_region_noPanic (aZ k S hm hS fun hs=>by have:=h hs;unfold UK at this;rwa[←xS]at this)
theorem UK.take{o:Oper}{v:Value}(hi:ops[n]?=some o)(hc:okK md ops k n=true)(hQ:∀c a w,Q (.panic c) (a.put o.dst v) w→Q (.panic c) a w)(hr:Region.wanted o (yielded ops a.tmps)=true)
  (hv:∀w,S w→(execOp a.eval o).run P w=.ok (.value v) w)(hS:S w)(h:UK P md ops Q S k (n+1) (a.put o.dst v) w):UK P md ops Q S k n a w:=by
 unfold UK okK okP okT at*
 have e:=jg hi
 simp only[Bool.and_eq_true,bne_iff_ne]at hc
 rw[e]at hc⊢
 exact qm hi hc.1.1.1.1 hc.1.1.1.2 hc.1.1.2 hc.1.2 hc.2 hQ (.inl ⟨hr,hv⟩) hS (by rw[lV];exact h)
theorem UK.pure{o:Oper}{v:Value}(hi:ops[n]?=some o)(hc:okP md ops k n=true)(hQ:∀c a w,Q (.panic c) (a.put o.dst v) w→Q (.panic c) a w)(hr:Region.wanted o (yielded ops a.tmps)=true)
  (hv:∀w:World,True→(execOp a.eval o).run P w=.ok (.value v) w)(hS:S w)(h:UK P md ops Q S k (n+1) (a.put o.dst v) w):UK P md ops Q S k n a w:=by
 unfold UK okP okT at*
 have e:=jg hi
 simp only[Bool.and_eq_true,bne_iff_ne]at hc
 rw[e]at hc⊢
 exact jf hi hc.1.1.1 hc.1.1.2 hc.1.2 hc.2 hQ (.inl ⟨hr,hv⟩) hS (by rw[lV];exact h)
theorem UK.one{o:Oper}(hr:okO md ops k n=true)(ho:ops[n]?=some o)
  (h:∀K':Act→World→Prop,Shut (∀a w,S w→(S w→UK P md ops Q S k (n+1) a w)→K' a w)→if Region.wanted o (yielded ops a.tmps)=true then Oper.wp P o a w K' Q else K' (a.put o.dst undef) w):UK P md ops Q S k n a w:=by
 unfold UK okO at*
 have e:=jg ho
 simp only[Bool.and_eq_true,bne_iff_ne,beq_iff_eq]at hr
 rw[e]at hr⊢
 exact aG hr.1 hr.2 ho fun K' hK=>h K' (by rw[lV]at hK;exact hK)
theorem UK.last{o:Oper}(hr:Region.ready md ops (Ul k (ops.size-k))=[k])(ho:ops[k]?=some o)
  (h:∀K':Act→World→Prop,Shut (∀a w,UH P md ops Q (fun _=>True) (k+1) a w→K' a w)→if Region.wanted o (yielded ops a.tmps)=true then Oper.wp P o a w K' Q else K' (a.put o.dst undef) w):UK P md ops Q S k k a w:=by
 unfold UK
 have e:=jg ho
 rw[e]at hr⊢
 exact aU hr ho fun K' hK=>h K' fun a w hW=>hK a w (by rw[lV];exact wpAny_of_held (S:=fun _=>True) _ _ _ _ hW)
def okJ(md:Region.Mode)(ops:Array Oper)(l:Array Bool)(k i:Nat):Bool:=okG md ops l i&&i !=k&&waits md ops k i
theorem gH(i:Nat){o:Oper}{v:Value}{f:Nat}{l:Array Bool}(hi:ops[i]?=some o)(hc:okJ md ops l k i=true)(hQ:∀c a w,Q (.panic c) (a.put o.dst v) w→Q (.panic c) a w)(hr:Region.wanted o (yielded ops a.tmps)=true)
  (hv:∀w,S w→(execOp a.eval o).run P w=.ok (.value v) w)(hS:S w)(h:dB P md ops Q S k f (l.setIfInBounds i true) (a.put o.dst v) w):dB P md ops Q S k (f+1) l a w:=by
 simp only[okJ,okG,Bool.and_eq_true,bne_iff_ne]at hc
 exact qm hi hc.1.1.1.1 hc.1.1.1.2 hc.1.1.2 hc.1.2 hc.2 hQ (.inl ⟨hr,hv⟩) hS h
end
end Go.Proofs.YtgbkolonhddolaaGreatDoor.prs
end
