import Derived.Test.YtgbkolonhddolaaGreatDoorBpRng1
import Derived.Deep.QuietTactic
import Derived.BigQuiet
set_option linter.unusedSimpArgs false
set_option linter.unusedVariables false
section
namespace Go.Proofs.YtgbkolonhddolaaGreatDoor.nod
open Go.RowKit
open rng(R RV aH ag below_drewN info_parts own_below')
/--A node of a Ga tree. -/
inductive Nd where
 |mk(kind mode a b:Int)(neg:Bool)(name:ByteArray)(set:List R)(kids:List Nd)
def Nd.kind:Nd→Int|.mk k _ _ _ _ _ _ _=>k
def Nd.mode:Nd→Int|.mk _ m _ _ _ _ _ _=>m
def Nd.a:Nd→Int|.mk _ _ a _ _ _ _ _=>a
def Nd.b:Nd→Int|.mk _ _ _ b _ _ _ _=>b
def Nd.neg:Nd→Bool|.mk _ _ _ _ g _ _ _=>g
def Nd.name:Nd→ByteArray|.mk _ _ _ _ _ n _ _=>n
def Nd.set:Nd→List R|.mk _ _ _ _ _ _ s _=>s
def Nd.kids:Nd→List Nd|.mk _ _ _ _ _ _ _ ks=>ks
instance : Inhabited Nd :=⟨.mk 0 0 0 0 false ByteArray.empty [] []⟩
mutual
/--How many nodes. -/
def Nd.sz:Nd→Nat
 |.mk _ _ _ _ _ _ _ ks=>szL ks+1
def szL:List Nd→Nat
 |[]=>0
 |t::ts=>t.sz+szL ts
end
theorem dW{t:Nd}:∀{ks:List Nd},t∈ks→t.sz≤szL ks
 |[],h=>by cases h
 |x::ks,h=>by
  rw[szL]
  rcases List.mem_cons.1 h with rfl|h
  ·omega
  ·have:=dW h;omega
/--What fits an int. -/
def dQ(x:Int):Prop:=-9223372036854775808≤x∧x≤9223372036854775807
/--Eight cells make the value v. -/
def nE(w:World)(b off:Nat)(v:Value):Prop:=∃c0 c1 c2 c3 c4 c5 c6 c7,v=.agg #[c0,c1,c2,c3,c4,c5,c6,c7]∧w.cell? ⟨b,off,none⟩=some c0∧w.cell? ⟨b,off+1,none⟩=some c1∧w.cell? ⟨b,off+2,none⟩=some c2∧w.cell? ⟨b,off+3,none⟩=some c3∧
 w.cell? ⟨b,off+4,none⟩=some c4∧w.cell? ⟨b,off+5,none⟩=some c5∧w.cell? ⟨b,off+6,none⟩=some c6∧w.cell? ⟨b,off+7,none⟩=some c7
/--The value v reads as the node t, in blocks below B. -/
inductive NV(B:Nat)(w:World):Nd→Value→Prop
 |mk(k m a b:Int)(g:Bool)(n:ByteArray)(s:List R)(ks:List Nd)(sa:Option Addr)(sc:Nat)(ao:Option Addr)(cap:Nat)(F:Nat→Value)
  (hi:dQ k∧dQ m∧dQ a∧dQ b)(hn:n.size≤maxLen)
  (hs:RV w sa s)(hsB:∀x,sa=some x→s≠[]→x.block<B)(hsc:s.length≤sc∧sc≤maxLen∧(sa=none→sc=0))
  (hkc:ks.length≤cap∧cap≤maxLen∧(ao=none→cap=0))
  (hc:ks=[]∨∃bb off,ao=some ⟨bb,off,none⟩∧bb<B∧∀i,i<ks.length→nE w bb (off+i*8) (F i))
  (hF:∀(i:Nat)t,ks[i]?=some t→NV B w t (F i)):
  NV B w (.mk k m a b g n s ks) (.agg #[.int .i64 k,.int .i64 m,.int .i64 a,.int .i64 b,.bool g,.string n,.slice sa s.length sc,.slice ao ks.length cap])
theorem nE.below{B:Nat}{w w':World}{b off:Nat}{v:Value}(h:nE w b off v)(hb:Below B w w')(hB:b<B):nE w' b off v:=by
 obtain⟨c0,c1,c2,c3,c4,c5,c6,c7,rfl,h0,h1,h2,h3,h4,h5,h6,h7⟩:=h
 have e:∀(i:Nat)x,w.cell? ⟨b,i,none⟩=some x→w'.cell? ⟨b,i,none⟩=some x:=fun i x hx=>(hb.cell (p:=⟨b,i,none⟩) hB).trans hx
 exact⟨c0,c1,c2,c3,c4,c5,c6,c7,rfl,e _ _ h0,e _ _ h1,e _ _ h2,e _ _ h3,e _ _ h4,e _ _ h5,e _ _ h6,e _ _ h7⟩
theorem Js{B:Nat}{w w':World}{sa:Option Addr}{s:List R}(h:RV w sa s)(hB:∀x,sa=some x→s≠[]→x.block<B)(hb:Below B w w'):RV w' sa s:=by
 rcases h with h|⟨b,off,rfl,h⟩
 ·exact .inl h
 ·rcases s with _|⟨p,s⟩
  ·exact .inl rfl
  ·have hlt:b<B:=hB _ rfl (by simp)
   refine .inr ⟨b,off,rfl,fun i p hi=>?_⟩
   obtain⟨h1,h2⟩:=h i p hi
   exact⟨(hb.cell (p:=⟨b,_,none⟩) hlt).trans h1,(hb.cell (p:=⟨b,_,none⟩) hlt).trans h2⟩
theorem NV.keep{B:Nat}{w w':World}{t:Nd}{v:Value}(h:NV B w t v)(hb:Below B w w'):NV B w' t v:=by
 induction h with
 |mk k m a b g n s ks sa sc ao cap F hi hn hs hsB hsc hkc hc hF ih=>
  refine .mk k m a b g n s ks sa sc ao cap F hi hn (Js hs hsB hb) hsB hsc hkc ?_ ih
  rcases hc with h|⟨bb,off,e,hlt,hx⟩
  ·exact .inl h
  ·exact .inr ⟨bb,off,e,hlt,fun i hi=>(hx i hi).below hb hlt⟩
theorem NV.wide{B B':Nat}{w:World}{t:Nd}{v:Value}(h:NV B w t v)(hb:B≤B'):NV B' w t v:=by
 induction h with
 |mk k m a b g n s ks sa sc ao cap F hi hn hs hsB hsc hkc hc hF ih=>
  refine .mk k m a b g n s ks sa sc ao cap F hi hn hs (fun x e h=>Nat.lt_of_lt_of_le (hsB x e h) hb) hsc hkc ?_ ih
  rcases hc with h|⟨bb,off,e,hlt,hx⟩
  ·exact .inl h
  ·exact .inr ⟨bb,off,e,Nat.lt_of_lt_of_le hlt hb,hx⟩
/--Behind a call that changed nothing below its beginning. -/
theorem NV.on{B:Nat}{w w':World}{t:Nd}{v:Value}(h:NV B w t v)(hb:Below w.heap.size w w')(hB:B≤w.heap.size):NV B w' t v:=
 h.keep ⟨hb.os,hb.tape,hb.output,hb.size,fun k hk=>hb.block k (Nat.lt_of_lt_of_le hk hB)⟩
/--The nodes ks lie one behind the other in block b, from cell off on. -/
def II(B:Nat)(w:World)(b off:Nat)(ks:List Nd):Prop:=b<B∧∀(i:Nat)t,ks[i]?=some t→∃v,nE w b (off+i*8) v∧NV B w t v
/--The nodes ks can be read from the address on. -/
def KV(B:Nat)(w:World)(ao:Option Addr)(ks:List Nd):Prop:=ks=[]∨∃b off,ao=some ⟨b,off,none⟩∧II B w b off ks
theorem II.below{B:Nat}{w w':World}{b off:Nat}{ks:List Nd}(h:II B w b off ks)(hb:Below B w w'):II B w' b off ks:=
 ⟨h.1,fun i t hi=>by obtain⟨v,h1,h2⟩:=h.2 i t hi;exact⟨v,h1.below hb h.1,h2.keep hb⟩⟩
theorem KV.below{B:Nat}{w w':World}{ao:Option Addr}{ks:List Nd}(h:KV B w ao ks)(hb:Below B w w'):KV B w' ao ks:=by
 rcases h with h|⟨b,off,e,h⟩
 ·exact .inl h
 ·exact .inr ⟨b,off,e,h.below hb⟩
theorem KV.some{B:Nat}{w:World}{ao:Option Addr}{ks:List Nd}(h:KV B w ao ks)(h0:0<ks.length):∃b off,ao=some ⟨b,off,none⟩∧II B w b off ks:=by
 rcases h with rfl|h
 ·simp at h0
 ·exact h
/--A node's value, opened. -/
theorem NV.open{B:Nat}{w:World}{t:Nd}{v:Value}(h:NV B w t v):∃k m a b g n s ks sa sc ao cap,t=.mk k m a b g n s ks∧v=.agg #[.int .i64 k,.int .i64 m,.int .i64 a,.int .i64 b,.bool g,.string n,.slice sa s.length sc,.slice ao ks.length cap]∧
  (dQ k∧dQ m∧dQ a∧dQ b)∧n.size≤maxLen∧(RV w sa s∧(∀x,sa=some x→s≠[]→x.block<B)∧s.length≤sc∧sc≤maxLen∧(sa=none→sc=0))∧ks.length≤cap∧cap≤maxLen∧(ao=none→cap=0)∧KV B w ao ks:=by
 cases h with
 |mk k m a b g n s ks sa sc ao cap F hi hn hs hsB hsc hkc hc hF=>
  refine⟨k,m,a,b,g,n,s,ks,sa,sc,ao,cap,rfl,rfl,hi,hn,⟨hs,hsB,hsc⟩,hkc.1,hkc.2.1,hkc.2.2,?_⟩
  rcases hc with h|⟨bb,off,e,hlt,hx⟩
  ·exact .inl h
  ·exact .inr ⟨bb,off,e,hlt,fun i t hi=>⟨F i,hx i (List.getElem?_eq_some_iff.1 hi).1,hF i t hi⟩⟩
theorem NV.shut{B:Nat}{w:World}{k m a b:Int}{g:Bool}{n:ByteArray}{s:List R}{ks:List Nd}{sa:Option Addr}{sc:Nat}{ao:Option Addr}{cap:Nat}
  (hi:dQ k∧dQ m∧dQ a∧dQ b)(hn:n.size≤maxLen)(hs:RV w sa s∧(∀x,sa=some x→s≠[]→x.block<B)∧s.length≤sc∧sc≤maxLen∧(sa=none→sc=0))(hkc:ks.length≤cap∧cap≤maxLen∧(ao=none→cap=0))(hk:KV B w ao ks):
  NV B w (.mk k m a b g n s ks) (.agg #[.int .i64 k,.int .i64 m,.int .i64 a,.int .i64 b,.bool g,.string n,.slice sa s.length sc,.slice ao ks.length cap]):=by
 classical
 rcases hk with rfl|⟨bb,off,e,hlt,hx⟩
 ·exact .mk k m a b g n s [] sa sc ao cap (fun _=>.bool false) hi hn hs.1 hs.2.1 hs.2.2 hkc (.inl rfl) (fun i t h=>by simp at h)
 ·have each:∀i:Nat,∃v,∀t,ks[i]?=some t→nE w bb (off+i*8) v∧NV B w t v:=fun i=>by
   cases h:ks[i]? with
   |none=>exact⟨.bool false,fun t e=>by cases e⟩
   |some t=>obtain⟨v,h1,h2⟩:=hx i t h;exact⟨v,fun t' e=>by cases e;exact⟨h1,h2⟩⟩
  refine .mk k m a b g n s ks sa sc ao cap (fun i=>Classical.choose (each i)) hi hn hs.1 hs.2.1 hs.2.2 hkc (.inr ⟨bb,off,e,hlt,fun i hi=>?_⟩) (fun i t h=>(Classical.choose_spec (each i) t h).2)
  exact(Classical.choose_spec (each i) _ (List.getElem?_eq_getElem hi)).1
theorem C8{α:Type}{l:List α}{n k:Nat}(h:l.length=n)(hk:k<n):∃x,l[k]?=some x:=by subst h;exact⟨_,List.getElem?_eq_getElem hk⟩
theorem Le{α:Type}{l:List α}{k:Nat}{x:α}(h:l[k]?=some x):l.drop k=x::l.drop (k+1):=by
 obtain⟨hk,e⟩:=List.getElem?_eq_some_iff.1 h
 rw[List.drop_eq_getElem_cons hk,e]
theorem takeX{α:Type}{l:List α}{k:Nat}{x:α}(h:l[k]?=some x):l.take (k+1)=l.take k++[x]:=by
 obtain⟨hk,e⟩:=List.getElem?_eq_some_iff.1 h
 rw[List.take_succ_eq_append_getElem hk,e]
/--Kid number i of a row: its cells, as a walk reads them, and its value. -/
theorem II.kid{B:Nat}{w:World}{b off i:Nat}{ks:List Nd}{t:Nd}(h:II B w b off ks)(hi:ks[i]?=some t):∃k m a b' g n s kk sa sc ao cap,t=.mk k m a b' g n s kk∧
  (w.cell? ⟨b,off+i*8,none⟩=some (.int .i64 k)∧w.cell? ⟨b,off+i*8+1,none⟩=some (.int .i64 m)∧w.cell? ⟨b,off+i*8+2,none⟩=some (.int .i64 a)∧w.cell? ⟨b,off+i*8+3,none⟩=some (.int .i64 b')∧
   w.cell? ⟨b,off+i*8+4,none⟩=some (.bool g)∧w.cell? ⟨b,off+i*8+5,none⟩=some (.string n)∧w.cell? ⟨b,off+i*8+6,none⟩=some (.slice sa s.length sc)∧w.cell? ⟨b,off+i*8+7,none⟩=some (.slice ao kk.length cap))∧
  NV B w t (.agg #[.int .i64 k,.int .i64 m,.int .i64 a,.int .i64 b',.bool g,.string n,.slice sa s.length sc,.slice ao kk.length cap]):=by
 obtain⟨v,h1,h2⟩:=h.2 i t hi
 obtain⟨k,m,a,b',g,n,s,kk,sa,sc,ao,cap,rfl,rfl,_⟩:=h2.open
 obtain⟨c0,c1,c2,c3,c4,c5,c6,c7,e,g0,g1,g2,g3,g4,g5,g6,g7⟩:=h1
 simp only[Value.agg.injEq,Array.mk.injEq,List.cons.injEq,and_true]at e
 obtain⟨rfl,rfl,rfl,rfl,rfl,rfl,rfl,rfl⟩:=e
 exact⟨k,m,a,b',g,n,s,kk,sa,sc,ao,cap,rfl,⟨g0,g1,g2,g3,g4,g5,g6,g7⟩,h2⟩
end Go.Proofs.YtgbkolonhddolaaGreatDoor.nod
end
section
namespace Go.Proofs.YtgbkolonhddolaaGreatDoor.nod
open Go.RowKit
open rng(R RV aH ag below_drewN info_parts own_below')
mutual
/--Nodes counted down. -/
def fewN:Nd→Int→Int→Int×Bool
 |.mk _ _ _ _ _ _ _ ks,left,depth=>if left-1<0∨depth<0 then(left-1,false)else fewL ks (left-1) (depth-1)
def fewL:List Nd→Int→Int→Int×Bool
 |[],left,_=>(left,true)
 |t::ts,left,d=>if(fewN t left d).2 then fewL ts (fewN t left d).1 d else((fewN t left d).1,false)
end
theorem Lp{w:World}{lb i:Nat}{u v:Value}(h:w.cell? ⟨lb,i,none⟩=some u):(w.setCell ⟨lb,i,none⟩ v).cell? ⟨lb,i,none⟩=some v:=by
 simp only[World.cell?,World.setCell,Array.getElem?_modify,if_true]at*
 cases hb:w.heap[lb]? with
 |none=>rw[hb]at h;cases h
 |some o=>
  rw[hb]at h
  cases o with
  |cells c t f=>
   simp at h⊢
   obtain⟨h1,_⟩:=Array.getElem?_eq_some_iff.1 h
   rw[Array.getElem?_setIfInBounds,if_pos rfl,if_pos h1]
  |_=>simp at h
end Go.Proofs.YtgbkolonhddolaaGreatDoor.nod
end
namespace Go.Proofs.YtgbkolonhddolaaGreatDoor.nod
open Go.RowKit
open rng(R RV aH ag below_drewN info_parts own_below')
/--A block of its own. -/
def Bk(w:World)(g:Nat)(cs:Array Value)(t:TypeId):Prop:=w.heap[g]?=some (.cells cs t (0,0))
theorem Bk.new(w:World)(cs:Array Value)(t:TypeId):Bk (w.alloc (.cells cs t)) w.heap.size cs t:=by
 show(w.heap.push _)[w.heap.size]?=_;simp
theorem Bk.lt{w:World}{g:Nat}{cs:Array Value}{t:TypeId}(h:Bk w g cs t):g<w.heap.size:=(Array.getElem?_eq_some_iff.1 h).1
theorem Bk.keep{B:Nat}{w w':World}{g:Nat}{cs:Array Value}{t:TypeId}(h:Bk w g cs t)(hb:Below B w w')(hg:g<B):Bk w' g cs t:=(hb.block g hg).trans h
theorem Bk.on{w w':World}{g:Nat}{cs:Array Value}{t:TypeId}(h:Bk w g cs t)(hb:Below w.heap.size w w'):Bk w' g cs t:=h.keep hb h.lt
theorem Bk.past{w:World}{g:Nat}{cs:Array Value}{t:TypeId}(h:Bk w g cs t)(o:Obj):Bk (w.alloc o) g cs t:=h.on ((Below.refl _ w).alloc (Nat.le_refl _) o)
theorem Bk.cell{w:World}{g:Nat}{cs:Array Value}{t:TypeId}(h:Bk w g cs t)(i:Nat){u:Value}(hi:cs[i]?=some u):w.cell? ⟨g,i,none⟩=some u:=by
 unfold Bk at h
 simp[World.cell?,h,hi]
theorem Bk.frozen{w:World}{g:Nat}{cs:Array Value}{t:TypeId}(h:Bk w g cs t)(i:Nat):w.frozen? ⟨g,i,none⟩=false:=by
 unfold Bk at h
 simp[World.frozen?,h]
theorem Bk.set{w:World}{g:Nat}{cs:Array Value}{t:TypeId}(h:Bk w g cs t)(i:Nat)(u:Value):Bk (w.setCell ⟨g,i,none⟩ u) g (cs.setIfInBounds i u) t:=by
 unfold Bk at*
 simp[World.setCell,Array.getElem?_modify,h]
theorem Bk.set2{w:World}{g:Nat}{a b:Value}{t:TypeId}(h:Bk w g #[a,b] t)(x y:Value):Bk ((w.setCell ⟨g,0,none⟩ x).setCell ⟨g,1,none⟩ y) g #[x,y] t:=by
 have:=(h.set 0 x).set 1 y
 simpa using this
theorem Bk.apart{w:World}{g k i:Nat}{cs:Array Value}{t:TypeId}(h:Bk w g cs t)(hk:g≠k)(u:Value):Bk (w.setCell ⟨k,i,none⟩ u) g cs t:=
 (Below.heap_setCell _ _ _ _ hk).trans h
theorem bP(w:World)(o1 o2:Obj):Below w.heap.size w ((w.alloc o1).alloc o2):=((Below.refl _ w).alloc (Nat.le_refl _) _).alloc (by simp) _
theorem bk2{w:World}{t2:TypeId}{cs:Array Value}{o1:Obj}:Bk ((w.alloc o1).alloc (.cells cs t2)) (w.heap.size+1) cs t2:=by
 have:=Bk.new (w.alloc o1) cs t2
 simpa using this
theorem ae{A B:Nat}{w w':World}(h:Below A w w')(hB:B≤A):Below B w w':=⟨h.os,h.tape,h.output,h.size,fun k hk=>h.block k (Nat.lt_of_lt_of_le hk hB)⟩
/--From w to w' only the block E, and new blocks, have changed. -/
structure Kp(E:Option Nat)(w w':World):Prop where
 os:w'.os=w.os
 tape:w'.tape=w.tape
 output:w'.output=w.output
 size:w.heap.size≤w'.heap.size
 block:∀k,k<w.heap.size→some k≠E→w'.heap[k]?=w.heap[k]?
/--The block E, if there is one, holds the number s. -/
def St(E:Option Nat)(s:Value)(w:World):Prop:=∀x,E=some x→w.cell? ⟨x,0,none⟩=some s∧w.frozen? ⟨x,0,none⟩=false
end Go.Proofs.YtgbkolonhddolaaGreatDoor.nod
namespace Go.Proofs.YtgbkolonhddolaaGreatDoor.nod
open Go.RowKit
open rng(R RV)
/-! Nodes that the call itself lays -/
theorem Ik{w:World}{g:Nat}{t:TypeId}{c0 c1 c2 c3 c4 c5 c6 c7:Value}(h:Bk w g #[c0,c1,c2,c3,c4,c5,c6,c7] t):nE w g 0 (.agg #[c0,c1,c2,c3,c4,c5,c6,c7]):=
 ⟨c0,c1,c2,c3,c4,c5,c6,c7,rfl,h.cell 0 rfl,h.cell 1 rfl,h.cell 2 rfl,h.cell 3 rfl,h.cell 4 rfl,h.cell 5 rfl,h.cell 6 rfl,h.cell 7 rfl⟩
end Go.Proofs.YtgbkolonhddolaaGreatDoor.nod
namespace Go.Proofs.YtgbkolonhddolaaGreatDoor.nod
open Go.RowKit
/--A world that has W0 below z. -/
structure nG(z:Nat)(W0:World)where
 w:World
 h:Below z W0 w
instance (z : Nat)(W0:World):Nonempty (nG z W0):=⟨⟨W0,Below.refl _ _⟩⟩
theorem iF{P:Program}{id:Nat}{Q:Exit→Act→World→Prop}{a:Act}{w:World}{l:List Oper}(z:Nat)(W0:World)(hm:P.follows .mixedOrders=true)(hB:Region.lexB .any l.toArray=true)(hC:Below z W0 w.drew)
  (h:wpQuiet P l.toArray (fun w'=>∃p:nG z W0,w'=p.w) (fun a'=>∀w',(∃p:nG z W0,w'=p.w)→Q .normal a' w') l a):(Code.region id l.toArray true).wp P Q a w:=
 wp_region_quiet (C:=fun w'=>∃p:nG z W0,w'=p.w) hm hB ⟨⟨_,hC⟩,rfl⟩ (by simpa using h)
theorem eP{P:Program}{f:FuncId}{args:Array Value}{v:Value}{z:Nat}{W0:World}(C:∀W,Below z W0 W→Calls P f args W fun e w'=>e=.returned v∧Below z W0 w')(p:nG z W0):
  Calls P f args p.w fun e w''=>e=.returned v∧∃q:nG z W0,w''=q.w:=
 (C p.w p.h).mono fun _ w'⟨he,hb⟩=>⟨he,⟨w',hb⟩,rfl⟩
end Go.Proofs.YtgbkolonhddolaaGreatDoor.nod
