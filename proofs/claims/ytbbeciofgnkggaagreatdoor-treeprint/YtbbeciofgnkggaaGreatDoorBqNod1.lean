import Derived.Test.YtbbeciofgnkggaaGreatDoorBqRng1
import Derived.Deep.QuietTactic
import Derived.BigQuiet
import Derived.Test.YtbbeciofgnkggaaGreatDoorRows
import Derived.ProofKit
import Derived.OpenShut
import Derived.Deep.Strs
set_option linter.unusedSimpArgs false
set_option linter.unusedVariables false
set_option maxRecDepth 100000
set_option maxHeartbeats 4000000
section
namespace Go.Proofs.YtbbeciofgnkggaaGreatDoor.nod
open Go.RowKit
open rng(R RV ret_int ret_bool below_drewN info_parts own_below')
inductive Nd where
 |mk(kind mode a b:Int)(neg:Bool)(name:ByteArray)(set:List R)(kids:List Nd)
def Nd.kind:Nd→Int|.mk k _ _ _ _ _ _ _=>k
def Nd.mode:Nd→Int|.mk _ m _ _ _ _ _ _=>m
def Nd.a:Nd→Int|.mk _ _ a _ _ _ _ _=>a
def Nd.b:Nd→Int|.mk _ _ _ b _ _ _ _=>b
def Nd.neg:Nd→Bool|.mk _ _ _ _ g _ _ _=>g
def Nd.name:Nd→ByteArray|.mk _ _ _ _ _ n _ _=>n
def Nd.set:Nd→List R|.mk _ _ _ _ _ _ s _=>s
def Nd.kids:Nd→List Nd|.mk _ _ _ _ _ _ _ ks=>ks
instance : Inhabited Nd :=⟨.mk 0 0 0 0 false ByteArray.empty [] []⟩
mutual
/--How many nodes. -/
def Nd.sz:Nd→Nat
 |.mk _ _ _ _ _ _ _ ks=>szL ks+1
def szL:List Nd→Nat
 |[]=>0
 |t::ts=>t.sz+szL ts
end
theorem szL_mem{t:Nd}:∀{ks:List Nd},t∈ks→t.sz≤szL ks
 |[],h=>by cases h
 |x::ks,h=>by
  rw[szL]
  rcases List.mem_cons.1 h with rfl|h
  ·omega
  ·have:=szL_mem h;omega
/--What fits an int. -/
def I64(x:Int):Prop:=-9223372036854775808≤x∧x≤9223372036854775807
/--Eight cells make the value v. -/
def At8(w:World)(b off:Nat)(v:Value):Prop:=∃c0 c1 c2 c3 c4 c5 c6 c7,v=.agg #[c0,c1,c2,c3,c4,c5,c6,c7]∧w.cell? ⟨b,off,none⟩=some c0∧w.cell? ⟨b,off+1,none⟩=some c1∧w.cell? ⟨b,off+2,none⟩=some c2∧w.cell? ⟨b,off+3,none⟩=some c3∧
 w.cell? ⟨b,off+4,none⟩=some c4∧w.cell? ⟨b,off+5,none⟩=some c5∧w.cell? ⟨b,off+6,none⟩=some c6∧w.cell? ⟨b,off+7,none⟩=some c7
/--The value v reads as the node t, in blocks below B. -/
inductive NV(B:Nat)(w:World):Nd→Value→Prop
 |mk(k m a b:Int)(g:Bool)(n:ByteArray)(s:List R)(ks:List Nd)(sa:Option Addr)(sc:Nat)(ao:Option Addr)(cap:Nat)(F:Nat→Value)
  (hi:I64 k∧I64 m∧I64 a∧I64 b)(hn:n.size≤maxLen)
  (hs:RV w sa s)(hsB:∀x,sa=some x→s≠[]→x.block<B)(hsc:s.length≤sc∧sc≤maxLen∧(sa=none→sc=0))
  (hkc:ks.length≤cap∧cap≤maxLen∧(ao=none→cap=0))
  (hc:ks=[]∨∃bb off,ao=some ⟨bb,off,none⟩∧bb<B∧∀i,i<ks.length→At8 w bb (off+i*8) (F i))
  (hF:∀(i:Nat)t,ks[i]?=some t→NV B w t (F i)):
  NV B w (.mk k m a b g n s ks) (.agg #[.int .i64 k,.int .i64 m,.int .i64 a,.int .i64 b,.bool g,.string n,.slice sa s.length sc,.slice ao ks.length cap])
theorem At8.below{B:Nat}{w w':World}{b off:Nat}{v:Value}(h:At8 w b off v)(hb:Below B w w')(hB:b<B):At8 w' b off v:=by
 obtain⟨c0,c1,c2,c3,c4,c5,c6,c7,rfl,h0,h1,h2,h3,h4,h5,h6,h7⟩:=h
 have e:∀(i:Nat)x,w.cell? ⟨b,i,none⟩=some x→w'.cell? ⟨b,i,none⟩=some x:=fun i x hx=>(hb.cell (p:=⟨b,i,none⟩) hB).trans hx
 exact⟨c0,c1,c2,c3,c4,c5,c6,c7,rfl,e _ _ h0,e _ _ h1,e _ _ h2,e _ _ h3,e _ _ h4,e _ _ h5,e _ _ h6,e _ _ h7⟩
theorem rv_below{B:Nat}{w w':World}{sa:Option Addr}{s:List R}(h:RV w sa s)(hB:∀x,sa=some x→s≠[]→x.block<B)(hb:Below B w w'):RV w' sa s:=by
 rcases h with h|⟨b,off,rfl,h⟩
 ·exact .inl h
 ·rcases s with _|⟨p,s⟩
  ·exact .inl rfl
  ·have hlt:b<B:=hB _ rfl (by simp)
   refine .inr ⟨b,off,rfl,fun i p hi=>?_⟩
   obtain⟨h1,h2⟩:=h i p hi
   exact⟨(hb.cell (p:=⟨b,_,none⟩) hlt).trans h1,(hb.cell (p:=⟨b,_,none⟩) hlt).trans h2⟩
theorem NV.keep{B:Nat}{w w':World}{t:Nd}{v:Value}(h:NV B w t v)(hb:Below B w w'):NV B w' t v:=by
 induction h with
 |mk k m a b g n s ks sa sc ao cap F hi hn hs hsB hsc hkc hc hF ih=>
  refine .mk k m a b g n s ks sa sc ao cap F hi hn (rv_below hs hsB hb) hsB hsc hkc ?_ ih
  rcases hc with h|⟨bb,off,e,hlt,hx⟩
  ·exact .inl h
  ·exact .inr ⟨bb,off,e,hlt,fun i hi=>(hx i hi).below hb hlt⟩
theorem NV.wide{B B':Nat}{w:World}{t:Nd}{v:Value}(h:NV B w t v)(hb:B≤B'):NV B' w t v:=by
 induction h with
 |mk k m a b g n s ks sa sc ao cap F hi hn hs hsB hsc hkc hc hF ih=>
  refine .mk k m a b g n s ks sa sc ao cap F hi hn hs (fun x e h=>Nat.lt_of_lt_of_le (hsB x e h) hb) hsc hkc ?_ ih
  rcases hc with h|⟨bb,off,e,hlt,hx⟩
  ·exact .inl h
  ·exact .inr ⟨bb,off,e,Nat.lt_of_lt_of_le hlt hb,hx⟩
/--Behind a call that changed nothing below its beginning. -/
theorem NV.on{B:Nat}{w w':World}{t:Nd}{v:Value}(h:NV B w t v)(hb:Below w.heap.size w w')(hB:B≤w.heap.size):NV B w' t v:=
 h.keep ⟨hb.os,hb.tape,hb.output,hb.size,fun k hk=>hb.block k (Nat.lt_of_lt_of_le hk hB)⟩
/--The nodes ks lie one behind the other in block b, from cell off on. -/
def KAt(B:Nat)(w:World)(b off:Nat)(ks:List Nd):Prop:=b<B∧∀(i:Nat)t,ks[i]?=some t→∃v,At8 w b (off+i*8) v∧NV B w t v
/--The nodes ks can be read from the address on. -/
def KV(B:Nat)(w:World)(ao:Option Addr)(ks:List Nd):Prop:=ks=[]∨∃b off,ao=some ⟨b,off,none⟩∧KAt B w b off ks
theorem KAt.below{B:Nat}{w w':World}{b off:Nat}{ks:List Nd}(h:KAt B w b off ks)(hb:Below B w w'):KAt B w' b off ks:=
 ⟨h.1,fun i t hi=>by obtain⟨v,h1,h2⟩:=h.2 i t hi;exact⟨v,h1.below hb h.1,h2.keep hb⟩⟩
theorem KV.below{B:Nat}{w w':World}{ao:Option Addr}{ks:List Nd}(h:KV B w ao ks)(hb:Below B w w'):KV B w' ao ks:=by
 rcases h with h|⟨b,off,e,h⟩
 ·exact .inl h
 ·exact .inr ⟨b,off,e,h.below hb⟩
theorem KV.some{B:Nat}{w:World}{ao:Option Addr}{ks:List Nd}(h:KV B w ao ks)(h0:0<ks.length):∃b off,ao=some ⟨b,off,none⟩∧KAt B w b off ks:=by
 rcases h with rfl|h
 ·simp at h0
 ·exact h
/--A node's value, opened. -/
theorem NV.open{B:Nat}{w:World}{t:Nd}{v:Value}(h:NV B w t v):∃k m a b g n s ks sa sc ao cap,t=.mk k m a b g n s ks∧v=.agg #[.int .i64 k,.int .i64 m,.int .i64 a,.int .i64 b,.bool g,.string n,.slice sa s.length sc,.slice ao ks.length cap]∧
  (I64 k∧I64 m∧I64 a∧I64 b)∧n.size≤maxLen∧(RV w sa s∧(∀x,sa=some x→s≠[]→x.block<B)∧s.length≤sc∧sc≤maxLen∧(sa=none→sc=0))∧ks.length≤cap∧cap≤maxLen∧(ao=none→cap=0)∧KV B w ao ks:=by
 cases h with
 |mk k m a b g n s ks sa sc ao cap F hi hn hs hsB hsc hkc hc hF=>
  refine⟨k,m,a,b,g,n,s,ks,sa,sc,ao,cap,rfl,rfl,hi,hn,⟨hs,hsB,hsc⟩,hkc.1,hkc.2.1,hkc.2.2,?_⟩
  rcases hc with h|⟨bb,off,e,hlt,hx⟩
  ·exact .inl h
  ·exact .inr ⟨bb,off,e,hlt,fun i t hi=>⟨F i,hx i (List.getElem?_eq_some_iff.1 hi).1,hF i t hi⟩⟩
theorem NV.shut{B:Nat}{w:World}{k m a b:Int}{g:Bool}{n:ByteArray}{s:List R}{ks:List Nd}{sa:Option Addr}{sc:Nat}{ao:Option Addr}{cap:Nat}
  (hi:I64 k∧I64 m∧I64 a∧I64 b)(hn:n.size≤maxLen)(hs:RV w sa s∧(∀x,sa=some x→s≠[]→x.block<B)∧s.length≤sc∧sc≤maxLen∧(sa=none→sc=0))(hkc:ks.length≤cap∧cap≤maxLen∧(ao=none→cap=0))(hk:KV B w ao ks):
  NV B w (.mk k m a b g n s ks) (.agg #[.int .i64 k,.int .i64 m,.int .i64 a,.int .i64 b,.bool g,.string n,.slice sa s.length sc,.slice ao ks.length cap]):=by
 classical
 rcases hk with rfl|⟨bb,off,e,hlt,hx⟩
 ·exact .mk k m a b g n s [] sa sc ao cap (fun _=>.bool false) hi hn hs.1 hs.2.1 hs.2.2 hkc (.inl rfl) (fun i t h=>by simp at h)
 ·have each:∀i:Nat,∃v,∀t,ks[i]?=some t→At8 w bb (off+i*8) v∧NV B w t v:=fun i=>by
   cases h:ks[i]? with
   |none=>exact⟨.bool false,fun t e=>by cases e⟩
   |some t=>obtain⟨v,h1,h2⟩:=hx i t h;exact⟨v,fun t' e=>by cases e;exact⟨h1,h2⟩⟩
  refine .mk k m a b g n s ks sa sc ao cap (fun i=>Classical.choose (each i)) hi hn hs.1 hs.2.1 hs.2.2 hkc (.inr ⟨bb,off,e,hlt,fun i hi=>?_⟩) (fun i t h=>(Classical.choose_spec (each i) t h).2)
  exact(Classical.choose_spec (each i) _ (List.getElem?_eq_getElem hi)).1
theorem getX{α:Type}{l:List α}{n k:Nat}(h:l.length=n)(hk:k<n):∃x,l[k]?=some x:=by subst h;exact⟨_,List.getElem?_eq_getElem hk⟩
theorem dropX{α:Type}{l:List α}{k:Nat}{x:α}(h:l[k]?=some x):l.drop k=x::l.drop (k+1):=by
 obtain⟨hk,e⟩:=List.getElem?_eq_some_iff.1 h
 rw[List.drop_eq_getElem_cons hk,e]
theorem takeX{α:Type}{l:List α}{k:Nat}{x:α}(h:l[k]?=some x):l.take (k+1)=l.take k++[x]:=by
 obtain⟨hk,e⟩:=List.getElem?_eq_some_iff.1 h
 rw[List.take_succ_eq_append_getElem hk,e]
/--Kid number i of a row: its cells, as a walk reads them, and its value. -/
theorem KAt.kid{B:Nat}{w:World}{b off i:Nat}{ks:List Nd}{t:Nd}(h:KAt B w b off ks)(hi:ks[i]?=some t):∃k m a b' g n s kk sa sc ao cap,t=.mk k m a b' g n s kk∧
  (w.cell? ⟨b,off+i*8,none⟩=some (.int .i64 k)∧w.cell? ⟨b,off+i*8+1,none⟩=some (.int .i64 m)∧w.cell? ⟨b,off+i*8+2,none⟩=some (.int .i64 a)∧w.cell? ⟨b,off+i*8+3,none⟩=some (.int .i64 b')∧
   w.cell? ⟨b,off+i*8+4,none⟩=some (.bool g)∧w.cell? ⟨b,off+i*8+5,none⟩=some (.string n)∧w.cell? ⟨b,off+i*8+6,none⟩=some (.slice sa s.length sc)∧w.cell? ⟨b,off+i*8+7,none⟩=some (.slice ao kk.length cap))∧
  NV B w t (.agg #[.int .i64 k,.int .i64 m,.int .i64 a,.int .i64 b',.bool g,.string n,.slice sa s.length sc,.slice ao kk.length cap]):=by
 obtain⟨v,h1,h2⟩:=h.2 i t hi
 obtain⟨k,m,a,b',g,n,s,kk,sa,sc,ao,cap,rfl,rfl,_⟩:=h2.open
 obtain⟨c0,c1,c2,c3,c4,c5,c6,c7,e,g0,g1,g2,g3,g4,g5,g6,g7⟩:=h1
 simp only[Value.agg.injEq,Array.mk.injEq,List.cons.injEq,and_true]at e
 obtain⟨rfl,rfl,rfl,rfl,rfl,rfl,rfl,rfl⟩:=e
 exact⟨k,m,a,b',g,n,s,kk,sa,sc,ao,cap,rfl,⟨g0,g1,g2,g3,g4,g5,g6,g7⟩,h2⟩
end Go.Proofs.YtbbeciofgnkggaaGreatDoor.nod
end
section
namespace Go.Proofs.YtbbeciofgnkggaaGreatDoor.nod
open Go.RowKit
open rng(R RV ret_int ret_bool below_drewN info_parts own_below')
mutual
/--Nodes counted down. -/
def fewN:Nd→Int→Int→Int×Bool
 |.mk _ _ _ _ _ _ _ ks,left,depth=>if left-1<0∨depth<0 then(left-1,false)else fewL ks (left-1) (depth-1)
def fewL:List Nd→Int→Int→Int×Bool
 |[],left,_=>(left,true)
 |t::ts,left,d=>if(fewN t left d).2 then fewL ts (fewN t left d).1 d else((fewN t left d).1,false)
end
theorem few_facts:∀(N:Nat)(t:Nd)(l d:Int),t.sz≤N→(fewN t l d).2=true→(fewN t l d).1+t.sz=l∧0≤(fewN t l d).1:=by
 intro N
 induction N with
 |zero=>intro t l d h;cases t;rw[Nd.sz]at h;omega
 |succ N ih=>
  intro t l d h ht
  obtain⟨k,m,a,b,g,n,s,ks⟩:=t
  rw[Nd.sz]at h⊢
  rw[fewN]at ht⊢
  by_cases c:l-1<0∨d<0
  ·rw[if_pos c]at ht;cases ht
  ·rw[if_neg c]at ht⊢
   have key:∀(ts:List Nd)(l':Int),szL ts≤N→0≤l'→(fewL ts l' (d-1)).2=true→(fewL ts l' (d-1)).1+szL ts=l'∧0≤(fewL ts l' (d-1)).1:=by
    intro ts
    induction ts with
    |nil=>intro l' _ h0 _;rw[fewL,szL];simp only;omega
    |cons x ts ih2=>
     intro l' hN h0 ht2
     rw[szL]at hN⊢
     rw[fewL]at ht2⊢
     by_cases c2:(fewN x l' (d-1)).2=true
     ·rw[if_pos c2]at ht2⊢
      obtain⟨e1,e2⟩:=ih x l' (d-1) (by omega) c2
      obtain⟨e3,e4⟩:=ih2 _ (by omega) e2 ht2
      omega
     ·rw[if_neg c2]at ht2;cases ht2
   have:=key ks (l-1) (by omega) (by omega) ht
   omega
theorem few_facts'{t:Nd}{l d:Int}(h:(fewN t l d).2=true):(fewN t l d).1+t.sz=l∧0≤(fewN t l d).1:=few_facts _ t l d (Nat.le_refl _) h
theorem fewL_stop{t:Nd}{ts:List Nd}{l d:Int}(h:(fewN t l d).2=false):fewL (t::ts) l d=((fewN t l d).1,false):=by rw[fewL,if_neg (by rw[h];simp)]
theorem fewL_go{t:Nd}{ts:List Nd}{l d:Int}(h:(fewN t l d).2=true):fewL (t::ts) l d=fewL ts (fewN t l d).1 d:=by rw[fewL,if_pos h]
theorem cell_past{w:World}{lb i:Nat}{u:Value}(o:Obj)(h:w.cell? ⟨lb,i,none⟩=some u):(w.alloc o).cell? ⟨lb,i,none⟩=some u:=
 ((Below.refl w.heap.size w).alloc (Nat.le_refl _) o).cell (p:=⟨lb,i,none⟩) (World.block_lt_of_cell? w _ h)|>.trans h
theorem frozen_past{w:World}{lb i:Nat}(o:Obj)(hl:lb<w.heap.size)(h:w.frozen? ⟨lb,i,none⟩=false):(w.alloc o).frozen? ⟨lb,i,none⟩=false:=
 (World.frozen?_of_block (a:=⟨lb,i,none⟩) (((Below.refl w.heap.size w).alloc (Nat.le_refl _) o).block lb hl)).trans h
theorem cell_set{w:World}{lb i:Nat}{u v:Value}(h:w.cell? ⟨lb,i,none⟩=some u):(w.setCell ⟨lb,i,none⟩ v).cell? ⟨lb,i,none⟩=some v:=by
 simp only[World.cell?,World.setCell,Array.getElem?_modify,if_true]at*
 cases hb:w.heap[lb]? with
 |none=>rw[hb]at h;cases h
 |some o=>
  rw[hb]at h
  cases o with
  |cells c t f=>
   simp at h⊢
   obtain⟨h1,_⟩:=Array.getElem?_eq_some_iff.1 h
   rw[Array.getElem?_setIfInBounds,if_pos rfl,if_pos h1]
  |_=>simp at h
theorem frozen_set{w:World}{lb i j:Nat}{v:Value}(h:w.frozen? ⟨lb,j,none⟩=false):(w.setCell ⟨lb,i,none⟩ v).frozen? ⟨lb,j,none⟩=false:=by
 rw[←h]
 simp only[World.frozen?,World.setCell,Array.getElem?_modify,if_true]
 cases hb:w.heap[lb]? with
 |none=>simp
 |some o=>
  cases o with
  |cells c t f=>simp
  |_=>simp
theorem few_any:∀(N:Nat)(t:Nd)(v:Value)(B lb:Nat)(left depth:Int)(w:World),t.sz≤N→NV B w t v→B≤lb→B≤w.heap.size→w.cell? ⟨lb,0,none⟩=some (.int .i64 left)→w.frozen? ⟨lb,0,none⟩=false→0≤left→left≤1000000→-1≤depth→depth≤1000000→
  Calls Tryz.prog 12 #[v,.pointer (some ⟨lb,0,none⟩),.int .i64 depth] w fun e w'=>e=.returned (.bool (fewN t left depth).2)∧w'.cell? ⟨lb,0,none⟩=some (.int .i64 (fewN t left depth).1)∧w'.frozen? ⟨lb,0,none⟩=false∧Below B w w':=by
 intro N
 induction N with
 |zero=>intro t v B lb left depth w h;obtain⟨k,m,a,b,g,n,s,ks⟩:=t;rw[Nd.sz]at h;omega
 |succ N ih=>
  intro t v B lb left depth w hN hv hB hBw hcell hfz h1 h2 h3 h4
  obtain⟨k,m,a,b,g,n,s,ks,sa,sc,ao,cap,rfl,rfl,_,_,_,hk1,hk2,_,hkv⟩:=hv.open
  rw[Nd.sz]at hN
  clear hv
  have hlb:lb<w.heap.size:=World.block_lt_of_cell? w _ hcell
  generalize hsl:s.length=sl
  clear hsl
  have c0:(w.setCell ⟨lb,0,none⟩ (.int .i64 (left-1))).cell? ⟨lb,0,none⟩=some (.int .i64 (left-1)):=cell_set hcell
  have cB:=cell_past (.cells #[.int .i64 k,.int .i64 m,.int .i64 a,.int .i64 b,.bool g,.string n,.slice sa sl sc,.slice ao ks.length cap] 25) c0
  have fB:=frozen_past (i:=0) (.cells #[.int .i64 k,.int .i64 m,.int .i64 a,.int .i64 b,.bool g,.string n,.slice sa sl sc,.slice ao ks.length cap] 25) (show lb<(w.setCell ⟨lb,0,none⟩ (.int .i64 (left-1))).heap.size by simpa[World.setCell]using hlb) (frozen_set (i:=0) (v:=.int .i64 (left-1)) hfz)
  have bA:Below B w ((w.setCell ⟨lb,0,none⟩ (.int .i64 (left-1))).alloc (.cells #[.int .i64 k,.int .i64 m,.int .i64 a,.int .i64 b,.bool g,.string n,.slice sa sl sc,.slice ao ks.length cap] 25)):=((Below.refl B w).setCell (p:=⟨lb,0,none⟩) hB _).alloc (by simpa[World.setCell]using hBw) _
  by_cases c:left-1<0
  ·have HR:Hid (fewN (.mk k m a b g n s ks) left depth=(left-1,false)):=by unfold Hid;rw[fewN,if_pos (.inl c)]
   rw[HR.out]
   have HB:Hid (Below B w _):=bA
   clear hkv ih hN HR bA
   go_enter Tryz.func12,Tryz.ntmps12
   go_wp2
   go_ret
   exact⟨rfl,cB,fB,HB.out⟩
  by_cases c':depth<0
  ·have HR:Hid (fewN (.mk k m a b g n s ks) left depth=(left-1,false)):=by unfold Hid;rw[fewN,if_pos (.inr c')]
   rw[HR.out]
   have HB:Hid (Below B w _):=bA
   clear hkv ih hN HR bA
   go_enter Tryz.func12,Tryz.ntmps12
   go_wp2
   go_ret
   exact⟨rfl,cB,fB,HB.out⟩
  have HR:Hid (fewN (.mk k m a b g n s ks) left depth=fewL ks (left-1) (depth-1)):=by unfold Hid;rw[fewN,if_neg (by omega)]
  rw[HR.out]
  clear HR
  obtain⟨nk,hnk⟩:∃nk,ks.length=nk:=⟨_,rfl⟩
  have HL:Hid (ks.length=nk):=hnk
  have HK:Hid (KV B w ao ks):=hkv
  have HB:Hid (Below B w _):=bA
  have HI:Hid (∀(t:Nd)(v:Value)(l':Int)(W:World),t∈ks→NV B W t v→B≤W.heap.size→W.cell? ⟨lb,0,none⟩=some (.int .i64 l')→W.frozen? ⟨lb,0,none⟩=false→0≤l'→l'≤1000000→
    Calls Tryz.prog 12 #[v,.pointer (some ⟨lb,0,none⟩),.int .i64 (depth-1)] W fun e w'=>e=.returned (.bool (fewN t l' (depth-1)).2)∧w'.cell? ⟨lb,0,none⟩=some (.int .i64 (fewN t l' (depth-1)).1)∧w'.frozen? ⟨lb,0,none⟩=false∧Below B W w'):=fun t v l' W hm hv hs hc hf q1 q2=>by
   have:=szL_mem hm
   exact ih t v B lb l' (depth-1) W (by omega) hv hB hs hc hf q1 q2 (by omega) (by omega)
  rw[hnk]at hk1 cB fB HB⊢
  have hk3:nk≤9223372036854775807:=by unfold maxLen at hk2;omega
  clear hkv ih hN bA hnk
  go_enter Tryz.func12,Tryz.ntmps12
  go_wp2
  go_loopw[25](fun i wr=>∃(j:Nat)(l':Int),j≤nk∧i=.int .i64 j∧Hid (fewL ks (left-1) (depth-1)=fewL (ks.drop j) l' (depth-1))∧wr.cell? ⟨lb,0,none⟩=some (.int .i64 l')∧wr.frozen? ⟨lb,0,none⟩=false∧0≤l'∧l'≤1000000∧Hid (Below B w wr))(fun i _=>nk-(intOf i).toNat)
  case atStart=>exact⟨0,left-1,Nat.zero_le _,rfl,rfl,cB,fB,by omega,by omega,HB⟩
  case round=>
   obtain⟨j,l',hj,rfl,HE,hc,hf,q1,q2,HW⟩:=hrel
   clear cB fB HB hcell hfz c0
   by_cases hlt:j<nk
   ·obtain⟨t,ht⟩:=getX HL.out hlt
    obtain⟨bb,off,rfl,hka⟩:=(HK.out.below HW.out).some (by have:=HL.out;omega)
    obtain⟨k',m',a',b',g',n',s',kk,sa',sc',ao',cap',rfl,⟨e0,e1,e2,e3,e4,e5,e6,e7⟩,hv'⟩:=hka.kid ht
    have hmem:=List.mem_of_getElem? ht
    have HD:Hid (ks.drop j=.mk k' m' a' b' g' n' s' kk::ks.drop (j+1)):=dropX ht
    have hwl:lb<wr.heap.size:=World.block_lt_of_cell? wr _ hc
    have hBr:B≤wr.heap.size:=Nat.le_trans hBw HW.out.size
    generalize s'.length=sl' at*
    generalize kk.length=nk' at*
    have W1:Below B wr (wr.alloc (.cells #[.int .i64 k',.int .i64 m',.int .i64 a',.int .i64 b',.bool g',.string n',.slice sa' sl' sc',.slice ao' nk' cap'] 25)):=(Below.refl B wr).alloc hBr _
    have C:=HI.out _ _ l' (wr.alloc (.cells #[.int .i64 k',.int .i64 m',.int .i64 a',.int .i64 b',.bool g',.string n',.slice sa' sl' sc',.slice ao' nk' cap'] 25)) hmem (hv'.keep W1) (by simp;omega) (cell_past _ hc) (frozen_past _ hwl hf) q1 q2
    have HC:Hid (Below B w (wr.alloc (.cells #[.int .i64 k',.int .i64 m',.int .i64 a',.int .i64 b',.bool g',.string n',.slice sa' sl' sc',.slice ao' nk' cap'] 25))):=HW.out.trans W1
    clear HK HW hka hv' ht hmem W1 HI
    obtain⟨r,hr⟩:∃r,fewN (.mk k' m' a' b' g' n' s' kk) l' (depth-1)=r:=⟨_,rfl⟩
    obtain⟨r1,r2⟩:=r
    rw[hr]at C
    have HR:Hid (fewN (.mk k' m' a' b' g' n' s' kk) l' (depth-1)=(r1,r2)):=hr
    simp only at C
    clear hr
    cases r2 with
    |false=>
     have HX:Hid (fewL ks (left-1) (depth-1)=(r1,false)):=by
      unfold Hid;rw[HE.out,HD.out,fewL_stop (by rw[HR.out]),HR.out]
     go_wp2_with(go_at_call 12;refine C.mono ?_;rintro e w2⟨rfl,d1,d2,d3⟩;have D3:Hid (Below B _ w2):=d3;clear d3)
     go_ret
     exact⟨by rw[HX.out];rfl,by rw[HX.out];exact d1,d2,HC.out.trans D3.out⟩
    |true=>
     have hfx:=few_facts' (t:=.mk k' m' a' b' g' n' s' kk) (l:=l') (d:=depth-1) (by rw[HR.out])
     rw[HR.out]at hfx
     simp only at hfx
     obtain⟨y1,y2⟩:=hfx
     have HX:Hid (fewL ks (left-1) (depth-1)=fewL (ks.drop (j+1)) r1 (depth-1)):=by
      unfold Hid;rw[HE.out,HD.out,fewL_go (by rw[HR.out]),HR.out]
     have y3:r1≤1000000:=by omega
     clear y1
     go_wp2_with(go_at_call 12;refine C.mono ?_;rintro e w2⟨rfl,d1,d2,d3⟩;have D3:Hid (Below B _ w2):=d3;clear d3)
     go_roundw
     case rel=>exact⟨j+1,r1,by omega,by go_num,HX,d1,d2,y2,y3,HC.out.trans D3.out⟩
     case measure=>simp[intOf];omega
   ·have HX:Hid (fewL ks (left-1) (depth-1)=(l',true)):=by
     unfold Hid;rw[HE.out,List.drop_of_length_le (by have:=HL.out;omega),fewL]
    clear HI HK
    go_wp2
    go_ret
    exact⟨by rw[HX.out];rfl,by rw[HX.out];exact hc,hf,HW.out⟩
theorem deep_any(t:Nd)(v:Value)(nodes depth:Int)(w:World)(hv:NV w.heap.size w t v)(h1:0≤nodes)(h2:nodes≤1000000)(h3:-1≤depth)(h4:depth≤1000000):
  Calls Tryz.prog 4 #[v,.int .i64 nodes,.int .i64 depth] w fun e w'=>e=.returned (.bool (!(fewN t nodes depth).2))∧Below w.heap.size w w':=by
 obtain⟨k,m,a,b,g,n,s,ks,sa,sc,ao,cap,rfl,rfl,_⟩:=hv.open
 generalize s.length=sl at*
 generalize ks.length=nk at*
 have B1:Below w.heap.size w (w.alloc (.cells #[.int .i64 k,.int .i64 m,.int .i64 a,.int .i64 b,.bool g,.string n,.slice sa sl sc,.slice ao nk cap] 25)):=(Below.refl _ w).alloc (Nat.le_refl _) _
 have B2:Below w.heap.size w ((w.alloc (.cells #[.int .i64 k,.int .i64 m,.int .i64 a,.int .i64 b,.bool g,.string n,.slice sa sl sc,.slice ao nk cap] 25)).alloc (.cells #[.int .i64 nodes] 3)):=B1.alloc (by simp) _
 have C:=few_any _ _ _ w.heap.size (w.heap.size+1) nodes depth ((w.alloc (.cells #[.int .i64 k,.int .i64 m,.int .i64 a,.int .i64 b,.bool g,.string n,.slice sa sl sc,.slice ao nk cap] 25)).alloc (.cells #[.int .i64 nodes] 3)) (Nat.le_refl _) (hv.keep B2) (by omega) (by simp;omega) (by simp) (by simp) h1 h2 h3 h4
 have HB:Hid (Below w.heap.size w _):=B2
 clear B1 B2 hv
 generalize fewN (.mk k m a b g n s ks) nodes depth=r at*
 go_enter Tryz.func4,Tryz.ntmps4
 go_wp2_with(go_at_call 12;refine C.mono ?_;rintro e w2⟨rfl,d1,d2,d3⟩;have D3:Hid (Below w.heap.size _ w2):=d3;clear d3)
 go_ret
 exact⟨rfl,HB.out.trans D3.out⟩
theorem deep_facts{t:Nd}{nodes depth:Int}(h:(fewN t nodes depth).2=true):t.sz≤nodes:=by have:=few_facts' h;omega
end Go.Proofs.YtbbeciofgnkggaaGreatDoor.nod
end
namespace Go.Proofs.YtbbeciofgnkggaaGreatDoor.nod
open Go.RowKit
open rng(R RV ret_int ret_bool below_drewN info_parts own_below')
def Bk(w:World)(g:Nat)(cs:Array Value)(t:TypeId):Prop:=w.heap[g]?=some (.cells cs t (0,0))
theorem Bk.new(w:World)(cs:Array Value)(t:TypeId):Bk (w.alloc (.cells cs t)) w.heap.size cs t:=by
 show(w.heap.push _)[w.heap.size]?=_;simp
theorem Bk.lt{w:World}{g:Nat}{cs:Array Value}{t:TypeId}(h:Bk w g cs t):g<w.heap.size:=(Array.getElem?_eq_some_iff.1 h).1
theorem Bk.keep{B:Nat}{w w':World}{g:Nat}{cs:Array Value}{t:TypeId}(h:Bk w g cs t)(hb:Below B w w')(hg:g<B):Bk w' g cs t:=(hb.block g hg).trans h
theorem Bk.on{w w':World}{g:Nat}{cs:Array Value}{t:TypeId}(h:Bk w g cs t)(hb:Below w.heap.size w w'):Bk w' g cs t:=h.keep hb h.lt
theorem Bk.past{w:World}{g:Nat}{cs:Array Value}{t:TypeId}(h:Bk w g cs t)(o:Obj):Bk (w.alloc o) g cs t:=h.on ((Below.refl _ w).alloc (Nat.le_refl _) o)
theorem Bk.cell{w:World}{g:Nat}{cs:Array Value}{t:TypeId}(h:Bk w g cs t)(i:Nat){u:Value}(hi:cs[i]?=some u):w.cell? ⟨g,i,none⟩=some u:=by
 unfold Bk at h
 simp[World.cell?,h,hi]
theorem Bk.frozen{w:World}{g:Nat}{cs:Array Value}{t:TypeId}(h:Bk w g cs t)(i:Nat):w.frozen? ⟨g,i,none⟩=false:=by
 unfold Bk at h
 simp[World.frozen?,h]
theorem Bk.set{w:World}{g:Nat}{cs:Array Value}{t:TypeId}(h:Bk w g cs t)(i:Nat)(u:Value):Bk (w.setCell ⟨g,i,none⟩ u) g (cs.setIfInBounds i u) t:=by
 unfold Bk at*
 simp[World.setCell,Array.getElem?_modify,h]
theorem Bk.apart{w:World}{g k i:Nat}{cs:Array Value}{t:TypeId}(h:Bk w g cs t)(hk:g≠k)(u:Value):Bk (w.setCell ⟨k,i,none⟩ u) g cs t:=
 (Below.heap_setCell _ _ _ _ hk).trans h
theorem below2(w:World)(o1 o2:Obj):Below w.heap.size w ((w.alloc o1).alloc o2):=((Below.refl _ w).alloc (Nat.le_refl _) _).alloc (by simp) _
theorem bk2{w:World}{t2:TypeId}{cs:Array Value}{o1:Obj}:Bk ((w.alloc o1).alloc (.cells cs t2)) (w.heap.size+1) cs t2:=by
 have:=Bk.new (w.alloc o1) cs t2
 simpa using this
theorem below_less{A B:Nat}{w w':World}(h:Below A w w')(hB:B≤A):Below B w w':=⟨h.os,h.tape,h.output,h.size,fun k hk=>h.block k (Nat.lt_of_lt_of_le hk hB)⟩
/--From w to w' only the block E, and new blocks, have changed. -/
structure Kp(E:Option Nat)(w w':World):Prop where
 os:w'.os=w.os
 tape:w'.tape=w.tape
 output:w'.output=w.output
 size:w.heap.size≤w'.heap.size
 block:∀k,k<w.heap.size→some k≠E→w'.heap[k]?=w.heap[k]?
/--The block E, if there is one, holds the number s. -/
def St(E:Option Nat)(s:Value)(w:World):Prop:=∀x,E=some x→w.cell? ⟨x,0,none⟩=some s∧w.frozen? ⟨x,0,none⟩=false
end Go.Proofs.YtbbeciofgnkggaaGreatDoor.nod
namespace Go.Proofs.YtbbeciofgnkggaaGreatDoor.nod
open Go.RowKit
open rng(R RV)
theorem nv_leaf(B:Nat)(w:World)(k m a b:Int)(g:Bool)(n:ByteArray)(h1:I64 k)(h2:I64 m)(h3:I64 a)(h4:I64 b)(hn:n.size≤maxLen):
  NV B w (.mk k m a b g n [] []) (.agg #[.int .i64 k,.int .i64 m,.int .i64 a,.int .i64 b,.bool g,.string n,.slice none 0 0,.slice none 0 0]):=
 NV.shut (s:=[]) (ks:=[]) ⟨h1,h2,h3,h4⟩ hn ⟨.inl rfl,fun x e=>(by cases e),by simp,by simp,fun _=>rfl⟩ ⟨by simp,by simp,fun _=>rfl⟩ (.inl rfl)
theorem at8_first{w:World}{g:Nat}{t:TypeId}{c0 c1 c2 c3 c4 c5 c6 c7:Value}(h:Bk w g #[c0,c1,c2,c3,c4,c5,c6,c7] t):At8 w g 0 (.agg #[c0,c1,c2,c3,c4,c5,c6,c7]):=
 ⟨c0,c1,c2,c3,c4,c5,c6,c7,rfl,h.cell 0 rfl,h.cell 1 rfl,h.cell 2 rfl,h.cell 3 rfl,h.cell 4 rfl,h.cell 5 rfl,h.cell 6 rfl,h.cell 7 rfl⟩
theorem kv_one{B:Nat}{w:World}{t:Nd}{c0 c1 c2 c3 c4 c5 c6 c7:Value}(T:TypeId)(h:NV B w t (.agg #[c0,c1,c2,c3,c4,c5,c6,c7]))(hB:B≤w.heap.size):
  KV (w.heap.size+1) (w.alloc (.cells #[c0,c1,c2,c3,c4,c5,c6,c7] T)) (some ⟨w.heap.size,0,none⟩) [t]:=by
 refine .inr ⟨_,_,rfl,by omega,fun i t' hi=>?_⟩
 match i,hi with
 |0,hi=>
  simp at hi;subst hi
  exact⟨_,at8_first (Bk.new w _ T),(h.wide hB|>.keep ((Below.refl _ w).alloc (Nat.le_refl _) _)).wide (by omega)⟩
 |k+1,hi=>simp at hi
theorem kv_two{B:Nat}{w:World}{t u:Nd}{c0 c1 c2 c3 c4 c5 c6 c7 d0 d1 d2 d3 d4 d5 d6 d7:Value}(T:TypeId)(h:NV B w t (.agg #[c0,c1,c2,c3,c4,c5,c6,c7]))(h':NV B w u (.agg #[d0,d1,d2,d3,d4,d5,d6,d7]))(hB:B≤w.heap.size):
  KV (w.heap.size+1) (w.alloc (.cells #[c0,c1,c2,c3,c4,c5,c6,c7,d0,d1,d2,d3,d4,d5,d6,d7] T)) (some ⟨w.heap.size,0,none⟩) [t,u]:=by
 have b:=Bk.new w #[c0,c1,c2,c3,c4,c5,c6,c7,d0,d1,d2,d3,d4,d5,d6,d7] T
 refine .inr ⟨_,_,rfl,by omega,fun i t' hi=>?_⟩
 match i,hi with
 |0,hi=>
  simp at hi;subst hi
  exact⟨_,⟨c0,c1,c2,c3,c4,c5,c6,c7,rfl,b.cell 0 rfl,b.cell 1 rfl,b.cell 2 rfl,b.cell 3 rfl,b.cell 4 rfl,b.cell 5 rfl,b.cell 6 rfl,b.cell 7 rfl⟩,(h.wide hB|>.keep ((Below.refl _ w).alloc (Nat.le_refl _) _)).wide (by omega)⟩
 |1,hi=>
  simp at hi;subst hi
  exact⟨_,⟨d0,d1,d2,d3,d4,d5,d6,d7,rfl,b.cell 8 rfl,b.cell 9 rfl,b.cell 10 rfl,b.cell 11 rfl,b.cell 12 rfl,b.cell 13 rfl,b.cell 14 rfl,b.cell 15 rfl⟩,(h'.wide hB|>.keep ((Below.refl _ w).alloc (Nat.le_refl _) _)).wide (by omega)⟩
 |k+2,hi=>simp at hi
end Go.Proofs.YtbbeciofgnkggaaGreatDoor.nod
namespace Go.Proofs.YtbbeciofgnkggaaGreatDoor.nod
open Go.RowKit
abbrev n8(k m a b:Int)(g:Bool)(n:ByteArray)(sa:Option Addr)(sl sc:Nat)(ao:Option Addr)(nk cap:Nat):Array Value:=#[.int .i64 k,.int .i64 m,.int .i64 a,.int .i64 b,.bool g,.string n,.slice sa sl sc,.slice ao nk cap]
theorem Bk.c8{w:World}{h:Nat}{t:TypeId}{k0 k1 k2 k3 k4 k5 k6 k7:Value}(b:Bk w h #[k0,k1,k2,k3,k4,k5,k6,k7] t):w.cell? ⟨h,0,none⟩=some k0∧w.cell? ⟨h,1,none⟩=some k1∧w.cell? ⟨h,2,none⟩=some k2∧w.cell? ⟨h,3,none⟩=some k3∧w.cell? ⟨h,4,none⟩=some k4∧w.cell? ⟨h,5,none⟩=some k5∧w.cell? ⟨h,6,none⟩=some k6∧w.cell? ⟨h,7,none⟩=some k7:=
 ⟨b.cell 0 rfl,b.cell 1 rfl,b.cell 2 rfl,b.cell 3 rfl,b.cell 4 rfl,b.cell 5 rfl,b.cell 6 rfl,b.cell 7 rfl⟩
theorem st0(w:World)(cs:Array Value)(t:TypeId):∃W0,w.alloc (.cells cs t)=W0∧Hid (w.alloc (.cells cs t)=W0)∧Below w.heap.size w W0∧Hid (Bk W0 w.heap.size cs t):=⟨_,rfl,rfl,(Below.refl _ w).alloc (Nat.le_refl _) _,Bk.new w _ _⟩
end Go.Proofs.YtbbeciofgnkggaaGreatDoor.nod
namespace Go.Proofs.YtbbeciofgnkggaaGreatDoor.nod
open Go.RowKit
structure Abv(z:Nat)(W0:World)where
 w:World
 h:Below z W0 w
instance (z : Nat)(W0:World):Nonempty (Abv z W0):=⟨⟨W0,Below.refl _ _⟩⟩
theorem region_above{P:Program}{id:Nat}{Q:Exit→Act→World→Prop}{a:Act}{w:World}{l:List Oper}(z:Nat)(W0:World)(hm:P.follows .mixedOrders=true)(hB:Region.lexB .any l.toArray=true)(hC:Below z W0 w.drew)
  (h:wpQuiet P l.toArray (fun w'=>∃p:Abv z W0,w'=p.w) (fun a'=>∀w',(∃p:Abv z W0,w'=p.w)→Q .normal a' w') l a):(Code.region id l.toArray true).wp P Q a w:=
 wp_region_quiet (C:=fun w'=>∃p:Abv z W0,w'=p.w) hm hB ⟨⟨_,hC⟩,rfl⟩ (by simpa using h)
theorem calls_above{P:Program}{f:FuncId}{args:Array Value}{v:Value}{z:Nat}{W0:World}(C:∀W,Below z W0 W→Calls P f args W fun e w'=>e=.returned v∧Below z W0 w')(p:Abv z W0):
  Calls P f args p.w fun e w''=>e=.returned v∧∃q:Abv z W0,w''=q.w:=
 (C p.w p.h).mono fun _ w'⟨he,hb⟩=>⟨he,⟨w',hb⟩,rfl⟩
end Go.Proofs.YtbbeciofgnkggaaGreatDoor.nod
namespace Go.Proofs.YtbbeciofgnkggaaGreatDoor.nod
open Go.ChangeShapes Go.WideShapes Go.ChangeAt Go.RowKit Go.Deep
open rng(R RV)
theorem wf64{x:Int}(h:(Lit.int .i64 x).wf=true):I64 x:=by
 simpa[Lit.wf,IntKind.min,IntKind.max,IntKind.signed,IntKind.bits,I64]using h
theorem open_set{H:Type}{enc:TypeId×Value→H}{W:World}{fuel:Nat}{v:Value}{x:DataW H×List MemPlace}(hf:DataW.trod enc Tryz.prog W 0 (fun _=>true) true fuel 22 [v]=some x):
  ∃(s:List R)(sa:Option Addr)(sc:Nat),v=.slice sa s.length sc∧RV W sa s∧(∀x,sa=some x→s≠[]→x.block<W.heap.size)∧s.length≤sc∧sc≤maxLen∧(sa=none→sc=0):=by
 rcases open_slice Tryz.underlying22 hf with⟨hcs,_⟩|⟨a,len,cap',m,k,D,Pl,hcs,_,hl,hm,hmm,hx,hel⟩
 ·obtain rfl:v=.slice none 0 0:=by simpa using hcs
  exact⟨[],none,0,rfl,.inl rfl,fun x e=>(by cases e),by simp,by simp,fun _=>rfl⟩
 ·obtain rfl:v=.slice (some a) len cap':=by simpa using hcs
  simp at hmm
  subst hmm
  have c2:Tryz.prog.cellsOf 45=2:=by kernel_rfl
  have each:∀i,i<len→∃r:R,W.cell? (a.add (i*2))=some (.int .i64 r.1)∧W.cell? (a.add (i*2+1))=some (.int .i64 r.2):=by
   intro i hi
   obtain⟨cs',h1,h2⟩:=hel i (by omega)
   rw[c2]at h1
   obtain⟨_,hlen,hcell⟩:=World.cells?_some h1
   obtain⟨y0,y1,kk,hy,_,g0,g1⟩:=trod_struct2 Tryz.underlying45 h2
   match cs',hlen with
   |[v0,v1],_=>
    have e0:=hcell 0 (by omega)
    have e1:=hcell 1 (by omega)
    rw[Go.Deep.add_add]at e0 e1
    have ci:Tryz.prog.cellsOf 3=1:=by kernel_rfl
    simp[ci]at g0 g1
    obtain⟨x0,hv0,hy0,_⟩:=DataW.trod_int Tryz.underlying3 g0
    obtain⟨x1,hv1,hy1,_⟩:=DataW.trod_int Tryz.underlying3 g1
    obtain rfl:v0=.int .i64 x0:=by simpa using hv0
    obtain rfl:v1=.int .i64 x1:=by simpa using hv1
    exact⟨(x0,x1),by simpa using e0,by simpa using e1⟩
  obtain⟨Rf,hR⟩:=choose_lt each
  refine⟨(List.range len).map Rf,some a,m,by rw[List.length_map,List.length_range],?_,?_,by simpa using hl,hm,fun e=>(by cases e)⟩
  ·rcases Nat.eq_zero_or_pos len with h0|h0
   ·subst h0;exact .inl rfl
   ·obtain⟨b,off,spot⟩:=a
    have hspot:spot=none:=by simpa[Addr.add]using World.cell?_spot (hR 0 h0).1
    subst hspot
    refine .inr ⟨b,off,rfl,fun i r hi=>?_⟩
    rw[List.getElem?_map]at hi
    have hil:i<len:=by
     rcases Nat.lt_or_ge i len with h'|h'
     ·exact h'
     ·rw[List.getElem?_eq_none (by simpa using h')]at hi;cases hi
    rw[List.getElem?_range hil]at hi
    obtain rfl:Rf i=r:=by simpa using hi
    obtain⟨q1,q2⟩:=hR i hil
    rw[Addr.add_lit]at q1 q2
    exact⟨q1,q2⟩
  ·intro x e hne
   cases e
   have h0:0<len:=by
    rcases Nat.eq_zero_or_pos len with h0|h0
    ·subst h0;simp at hne
    ·exact h0
   have:=World.block_lt_of_cell? W _ (hR 0 h0).1
   simpa[Addr.add]using this
end Go.Proofs.YtbbeciofgnkggaaGreatDoor.nod
