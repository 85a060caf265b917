import Derived.Test.YtbbeciofgnkggaaGreatDoorBqTre19
import Derived.Test.YtbbeciofgnkggaaGreatDoorBqNod1
import Derived.Maps.AppendAt
import Derived.Laws.AppendOwnNone
import Derived.Deep.LoopGhost
import Derived.Laws.CopyOwn
import Derived.Test.YtbbeciofgnkggaaGreatDoorBqTre1
import Derived.SizedLaws
set_option linter.unusedSimpArgs false
set_option linter.unusedVariables false
set_option maxRecDepth 100000
set_option maxHeartbeats 8000000
section
namespace Go.Proofs.YtbbeciofgnkggaaGreatDoor.cmp
open Go.RowKit nod
open rng(R RV info_parts)
mutual
def setsN:Nd→Prop
 |.mk _ _ _ _ _ _ s ks=>s.length≤8796093021952∧setsL ks
def setsL:List Nd→Prop
 |[]=>True
 |t::ts=>setsN t∧setsL ts
end
theorem sets_mem{t:Nd}:∀{ks:List Nd},setsL ks→t∈ks→setsN t
 |k::ks,h,hm=>by
  rw[setsL]at h
  rcases List.mem_cons.1 hm with rfl|hm
  ·exact h.1
  ·exact sets_mem h.2 hm
/--The value v reads as the tree t in any world that has the blocks from lo to hi as w has them. -/
def Frs(lo hi:Nat)(w:World)(t:Nd)(v:Value):Prop:=∀w'':World,(∀k,lo≤k→k<hi→w''.heap[k]?=w.heap[k]?)→NV hi w'' t v
theorem Frs.wide{lo hi lo' hi':Nat}{w:World}{t:Nd}{v:Value}(h:Frs lo hi w t v)(h1:lo'≤lo)(h2:hi≤hi'):Frs lo' hi' w t v:=fun w'' hw=>(h w'' fun k hk1 hk2=>hw k (by omega) (by omega)).wide h2
theorem Frs.at{lo hi:Nat}{w w':World}{t:Nd}{v:Value}(h:Frs lo hi w t v)(hw:∀k,lo≤k→k<hi→w'.heap[k]?=w.heap[k]?):Frs lo hi w' t v:=fun w'' h2=>h w'' fun k hk1 hk2=>(h2 k hk1 hk2).trans (hw k hk1 hk2)
inductive KC (g : Option Nat) (lo : Nat) (w : World) : List Nd → List Value → Prop
  | nil : KC g lo w [] []
  | cons (t : Nd) (k m a b : Int) (ng : Bool) (nm : ByteArray) (sa : Option Addr) (sl sc : Nat) (ao : Option Addr) (nk cap : Nat) (l : List Nd) (xs : List Value) (l1 h1 : Nat) (e1 : lo ≤ l1) (e2 : h1 ≤ w.heap.size) (e3 : ∀ x, g = some x → x < l1 ∨ h1 ≤ x)
      (hf : Frs l1 h1 w t (.agg #[.int .i64 k, .int .i64 m, .int .i64 a, .int .i64 b, .bool ng, .string nm, .slice sa sl sc, .slice ao nk cap])) (hr : KC g lo w l xs) : KC g lo w (t :: l) (.int .i64 k :: .int .i64 m :: .int .i64 a :: .int .i64 b :: .bool ng :: .string nm :: .slice sa sl sc :: .slice ao nk cap :: xs)
/--In a world that has the copies' blocks as they were. -/
theorem KC.to{g g':Option Nat}{lo:Nat}{w w':World}{l xs}(h:KC g lo w l xs)(hs:w.heap.size≤w'.heap.size)(hb:∀k,lo≤k→k<w.heap.size→some k≠g→w'.heap[k]?=w.heap[k]?)(hg:∀x,g'=some x→g=some x∨w.heap.size≤x):KC g' lo w' l xs:=by
 induction h with
 |nil=>exact .nil
 |cons t k m a b ng nm sa sl sc ao nk cap l xs l1 h1 e1 e2 e3 hf hr ih=>
  refine .cons t k m a b ng nm sa sl sc ao nk cap l xs l1 h1 e1 (by omega) (fun x e=>?_) (hf.at fun j hj1 hj2=>hb j (by omega) (by omega) fun e=>?_) ih
  ·rcases hg x e with e'|e'
   ·exact e3 x e'
   ·exact .inr (by omega)
  ·rcases e3 j e.symm with h|h<;>omega
theorem KC.snoc{g lo w l xs}(h:KC g lo w l xs)(t:Nd)(k m a b:Int)(ng:Bool)(nm:ByteArray)(sa:Option Addr)(sl sc:Nat)(ao:Option Addr)(nk cap:Nat)(l1 h1:Nat)(e1:lo≤l1)(e2:h1≤w.heap.size)(e3:∀x,g=some x→x<l1∨h1≤x)(hf:Frs l1 h1 w t (.agg (n8 k m a b ng nm sa sl sc ao nk cap))):
  KC g lo w (l++[t]) (xs++[.int .i64 k,.int .i64 m,.int .i64 a,.int .i64 b,.bool ng,.string nm,.slice sa sl sc,.slice ao nk cap]):=by
 induction h with
 |nil=>exact .cons t k m a b ng nm sa sl sc ao nk cap [] [] l1 h1 e1 e2 e3 hf .nil
 |cons t' k' m' a' b' ng' nm' sa' sl' sc' ao' nk' cap' l xs l1' h1' e1' e2' e3' hf' hr ih=>exact .cons t' k' m' a' b' ng' nm' sa' sl' sc' ao' nk' cap' _ _ l1' h1' e1' e2' e3' hf' ih
theorem KC.get{g lo w l xs}(h:KC g lo w l xs):∀(i:Nat)t,l[i]?=some t→∃c0 c1 c2 c3 c4 c5 c6 c7,xs[i*8]?=some c0∧xs[i*8+1]?=some c1∧xs[i*8+2]?=some c2∧xs[i*8+3]?=some c3∧xs[i*8+4]?=some c4∧xs[i*8+5]?=some c5∧xs[i*8+6]?=some c6∧xs[i*8+7]?=some c7∧Frs lo w.heap.size w t (.agg #[c0,c1,c2,c3,c4,c5,c6,c7]):=by
 induction h with
 |nil=>intro i t hi;simp at hi
 |cons t k m a b ng nm sa sl sc ao nk cap l xs l1 h1 e1 e2 e3 hf hr ih=>
  intro i u hi
  cases i with
  |zero=>simp at hi;subst hi;exact⟨_,_,_,_,_,_,_,_,rfl,rfl,rfl,rfl,rfl,rfl,rfl,rfl,hf.wide e1 e2⟩
  |succ i=>
   obtain⟨c0,c1,c2,c3,c4,c5,c6,c7,h0,h1,h2,h3,h4,h5,h6,h7,hh⟩:=ih i u (by simpa using hi)
   refine⟨c0,c1,c2,c3,c4,c5,c6,c7,?_⟩
   rw[show(i+1)*8=i*8+8 by omega]
   exact⟨h0,h1,h2,h3,h4,h5,h6,h7,hh⟩
/--A node of copies. -/
theorem frs_shut{lo:Nat}{w:World}{k m a b:Int}{g:Bool}{n:ByteArray}{s:List R}{ks:List Nd}{sa:Option Addr}{sl sc:Nat}{ao:Option Addr}{nk cap:Nat}{xs:List Value}
  (hi:I64 k∧I64 m∧I64 a∧I64 b)(hn:n.size≤maxLen)(hsl:s.length=sl)(hnk:ks.length=nk)(hs:w.ownsRow lo 45 2 (.slice sa sl sc) sl (rng.flat s))(ho:w.ownsRow lo 25 8 (.slice ao nk cap) nk xs)(hk:KC (Value.slice ao nk cap).ownBlock lo w ks xs)(hcap:nk≤cap∧cap≤maxLen∧(ao=none→cap=0))(hsc:sl≤sc∧sc≤maxLen∧(sa=none→sc=0)):
  Frs lo w.heap.size w (.mk k m a b g n s ks) (.agg (n8 k m a b g n sa sl sc ao nk cap)):=by
 intro w'' hw
 have hsub:∀{t:TypeId}{z n:Nat}{v:Value}{ys:List Value},w.ownsRow lo t z v n ys→w''.ownsRow lo t z v n ys:=fun{t z n v ys}o=>by
  refine⟨o.1,?_⟩
  rcases o.2 with h|⟨g1,c1,cu1,e,hg,hgg,rest⟩
  ·exact .inl h
  ·exact .inr ⟨g1,c1,cu1,e,hg,(hw g1 hg (Array.getElem?_eq_some_iff.1 hgg).1).trans hgg,rest⟩
 have hs'':=hsub hs
 have ho'':=hsub ho
 subst hsl hnk
 obtain⟨ao1,cap1,e1,hrv,_⟩:=rng.Own.view hs''
 cases e1
 refine NV.shut hi hn ⟨hrv,fun x e hne=>?_,hsc⟩ hcap ?_
 ·have:=(hs.lt x.block (by rw[e];rfl)).2;exact this
 ·rcases ho''.2 with⟨e,h0⟩|⟨g1,c1,cu1,e,hg,hgg,_⟩
  ·exact .inl (List.length_eq_zero_iff.1 h0)
  ·cases e
   have hlt:g1<w.heap.size:=(ho.lt g1 rfl).2
   refine .inr ⟨g1,0,rfl,hlt,fun i t hit=>?_⟩
   have hil:=(List.getElem?_eq_some_iff.1 hit).1
   obtain⟨c0,c1,c2,c3,c4,c5,c6,c7,h0,h1,h2,h3,h4,h5,h6,h7,hh⟩:=hk.get i t hit
   refine⟨_,⟨c0,c1,c2,c3,c4,c5,c6,c7,rfl,?_,?_,?_,?_,?_,?_,?_,?_⟩,hh w'' hw⟩
   ·rw[Nat.zero_add,ho''.cellAt _ (by omega)];exact h0
   ·rw[Nat.zero_add,ho''.cellAt _ (by omega)];exact h1
   ·rw[Nat.zero_add,ho''.cellAt _ (by omega)];exact h2
   ·rw[Nat.zero_add,ho''.cellAt _ (by omega)];exact h3
   ·rw[Nat.zero_add,ho''.cellAt _ (by omega)];exact h4
   ·rw[Nat.zero_add,ho''.cellAt _ (by omega)];exact h5
   ·rw[Nat.zero_add,ho''.cellAt _ (by omega)];exact h6
   ·rw[Nat.zero_add,ho''.cellAt _ (by omega)];exact h7
theorem own_keep{w w':World}{B t z n:Nat}{v:Value}{xs:List Value}(o:w.ownsRow B t z v n xs)(hb:Below w.heap.size w w'):w'.ownsRow B t z v n xs:=rng.own_below' o hb
theorem own_form{w:World}{B e size n:Nat}{v:Value}{xs:List Value}(h:w.ownsRow B e size v n xs):∃ao n' cap,v=.slice ao n' cap:=by
 rcases h.2 with⟨rfl,_⟩|⟨g,cap,cur,rfl,_⟩
 ·exact⟨_,_,_,rfl⟩
 ·exact⟨_,_,_,rfl⟩
theorem own_bk{w:World}{t t':TypeId}{B n z pb:Nat}{v:Value}{xs:List Value}{cs:Array Value}(h:w.ownsRow B t z v n xs)(b:Bk w pb cs t')(ht:t≠t'):v.ownBlock=none∨v.ownBlock≠some pb:=by
 rcases h.2 with⟨rfl,_⟩|⟨g,cap,cur,rfl,_,hg,_⟩
 ·exact .inl rfl
 ·refine .inr (fun e=>?_)
  obtain rfl:g=pb:=by simpa[Value.ownBlock]using e
  unfold Bk at b
  rw[hg]at b;cases b;exact ht rfl
theorem grown_set(w:World)(pb i:Nat)(u:Value):w.grownBy (w.setCell ⟨pb,i,none⟩ u) (some pb):=
 ⟨rfl,rfl,rfl,by simp[World.setCell],fun k _ hk=>Below.heap_setCell _ _ _ _ (fun e=>hk (by rw[e]))⟩
theorem own_less{w:World}{B B' e size n:Nat}{v:Value}{xs:List Value}(h:w.ownsRow B e size v n xs)(hb:B'≤B):w.ownsRow B' e size v n xs:=by
 refine⟨h.1,?_⟩
 rcases h.2 with hn|⟨g,cap,cur,rfl,hg,hgg,rest⟩
 ·exact .inl hn
 ·exact .inr ⟨g,cap,cur,rfl,Nat.le_trans hb hg,hgg,rest⟩
open rng(flat flat_length flat_get)in
theorem rv_news{w:World}{ad:Addr}{l:List R}(h:RV w (some ad) l):∀(j:Nat)(u:Value),(flat l)[j]?=some u→w.cell? (ad.add j)=some u:=by
 intro j u hj
 have hjl:j<(flat l).length:=(List.getElem?_eq_some_iff.1 hj).1
 rw[flat_length]at hjl
 obtain⟨b,off,e,hc⟩:=h.some (by omega)
 cases e
 have hx:l[j/2]?=some l[j/2]:=List.getElem?_eq_getElem (by omega)
 obtain⟨e1,e2⟩:=flat_get l (j/2) _ hx
 obtain⟨k1,k2⟩:=hc (j/2) _ hx
 have ea:((⟨b,off,none⟩:Addr).add j)=⟨b,off+j,none⟩:=by simp[Addr.add]
 rw[ea]
 rcases Nat.mod_two_eq_zero_or_one j with hm|hm
 ·have ej:j=j/2*2:=by omega
  rw[show(flat l)[j]?=(flat l)[j/2*2]? from congrArg (fun k=>(flat l)[k]?) ej,e1]at hj
  rw[show(⟨b,off+j,none⟩:Addr)=⟨b,off+j/2*2,none⟩from congrArg (fun k=>(⟨b,off+k,none⟩:Addr)) ej,k1];exact hj
 ·have ej:j=j/2*2+1:=by omega
  rw[show(flat l)[j]?=(flat l)[j/2*2+1]? from congrArg (fun k=>(flat l)[k]?) ej,e2]at hj
  rw[show(⟨b,off+j,none⟩:Addr)=⟨b,off+j/2*2+1,none⟩from congrArg (fun k=>(⟨b,k,none⟩:Addr)) (show off+j=off+j/2*2+1 by omega),k2];exact hj
theorem infoNode:(Tryz.prog.info? 25).map (fun i=>(i.zero,i.size,i.bytes))=some (some (.agg (n8 0 0 0 0 false ⟨#[]⟩ none 0 0 none 0 0)),8,104):=by kernel_rfl
theorem infNd:(Tryz.prog.info? 25).map (·.size)=some 8:=by kernel_rfl
theorem grown_row'(w:World)(g:Nat)(cs:Array Value):w.grownBy (w.setRow g cs) (some g):=
 ⟨rfl,rfl,rfl,by simp,fun k _ hk=>setRow_other _ _ _ _ (fun e=>hk (by rw[e]))⟩
theorem copy_any:∀(N:Nat)(t:Nd)(v:Value)(B:Nat)(w:World),t.sz≤N→t.sz≤3000→setsN t→NV B w t v→B≤w.heap.size→
  Calls Tryz.prog 6 #[v] w fun e w'=>∃v',e=.returned v'∧Frs w.heap.size w'.heap.size w' t v'∧Below w.heap.size w w':=by
 intro N
 induction N with
 |zero=>intro t v B w h;obtain⟨k,m,a,b,g,n,s,ks⟩:=t;rw[Nd.sz]at h;omega
 |succ N ih=>
  intro t v B w hN hsz hset hv hBw
  obtain⟨i0,hi,hz0,hz1,hz2⟩:=info_parts infoNode
  obtain⟨ir,hir,hy0,hy1,hy2⟩:=info_parts rng.infoRange
  obtain⟨k,m,a,b,g,n,s,ks,sa,sc,ao,cap,rfl,rfl,hi64,hnm,⟨hs1,hs2,hs3,hs4,hs5⟩,hk1,hk2,hk3,hkv⟩:=hv.open
  rw[Nd.sz]at hN hsz
  rw[setsN]at hset
  have HI:Hid (∀(t:Nd)(v:Value)(W:World),t∈ks→NV B W t v→B≤W.heap.size→Calls Tryz.prog 6 #[v] W fun e w'=>∃v',e=.returned v'∧Frs W.heap.size w'.heap.size w' t v'∧Below W.heap.size W w'):=fun t v W hm hv hs=>by
   have:=szL_mem hm
   exact ih t v B W (by omega) (by omega) (sets_mem hset.2 hm) hv hs
  have hlen:ks.length≤3000:=by have:=tre.len_szL ks;omega
  obtain⟨nk,hnk⟩:∃nk,ks.length=nk:=⟨_,rfl⟩
  have HNK:Hid (ks.length=nk):=hnk
  obtain⟨sl,hsl⟩:∃sl,s.length=sl:=⟨_,rfl⟩
  have HSL:Hid (s.length=sl):=hsl
  have hsl0:=hset.1
  rw[hsl]at hsl0 hs3⊢
  rw[hnk]at hk1 hlen⊢
  have HK:Hid (KV B w ao ks):=hkv
  have HRV:Hid (RV w sa s∧(∀x,sa=some x→s≠[]→x.block<B)∧(sa=none→sc=0)):=⟨hs1,hs2,hs5⟩
  have HI64:Hid (I64 k∧I64 m∧I64 a∧I64 b):=hi64
  have HNM:Hid (n.size≤maxLen):=hnm
  have hnl:nk≤3000:=by omega
  have HB0:Hid (Below w.heap.size w ((w.alloc (.cells (n8 k m a b g n sa sl sc ao nk cap) 25)).alloc (.cells (n8 0 0 0 0 false ⟨#[]⟩ none 0 0 none 0 0) 25))):=below2 _ _ _
  have HX0:Hid (Bk ((w.alloc (.cells (n8 k m a b g n sa sl sc ao nk cap) 25)).alloc (.cells (n8 0 0 0 0 false ⟨#[]⟩ none 0 0 none 0 0) 25)) w.heap.size (n8 k m a b g n sa sl sc ao nk cap) 25):=(Bk.new w _ _).past _
  have HZ0:Hid (Bk ((w.alloc (.cells (n8 k m a b g n sa sl sc ao nk cap) 25)).alloc (.cells (n8 0 0 0 0 false ⟨#[]⟩ none 0 0 none 0 0) 25)) (w.heap.size+1) (n8 0 0 0 0 false ⟨#[]⟩ none 0 0 none 0 0) 25):=bk2
  have HO0:Hid (((w.alloc (.cells (n8 k m a b g n sa sl sc ao nk cap) 25)).alloc (.cells (n8 0 0 0 0 false ⟨#[]⟩ none 0 0 none 0 0) 25)).ownsRow (w.heap.size+1+1) 25 8 (.slice none 0 0) 0 []):=World.ownsRow_nil _ _ _ _
  have HC0:Hid (KC none (w.heap.size+1+1) ((w.alloc (.cells (n8 k m a b g n sa sl sc ao nk cap) 25)).alloc (.cells (n8 0 0 0 0 false ⟨#[]⟩ none 0 0 none 0 0) 25)) [] []):=.nil
  clear ih hN hsz hv hkv hnk hset hsl hs1 hs2 hs5 hi64 hnm
  obtain⟨x0,x1,x2,x3,x4,x5,x6,x7⟩:=Bk.c8 HX0.out
  go_enter Tryz.func6,Tryz.ntmps6
  go_wp2
  go_loopg[3,9]nk(fun gk v3 i wr=>∃(j vc:Nat)(va:Option Addr)(xs:List Value),v3=.slice va j vc∧j+gk=nk∧i=.int .i64 j∧Hid (wr.ownsRow (w.heap.size+1+1) 25 8 (.slice va j vc) j xs)∧Hid (KC (Value.slice va j vc).ownBlock (w.heap.size+1+1) wr (ks.take j) xs)∧Hid (Below w.heap.size w wr)∧Hid (Bk wr w.heap.size (n8 k m a b g n sa sl sc ao nk cap) 25)∧Hid (Bk wr (w.heap.size+1) (n8 0 0 0 0 false ⟨#[]⟩ none 0 0 none 0 0) 25))
  case atStart=>exact⟨0,0,none,[],rfl,by omega,rfl,HO0,HC0,HB0,HX0,HZ0⟩
  case round=>
   obtain⟨j,vc,va,xs,rfl,hj,rfl,HO,HC,HW,HX,HZ⟩:=hrel
   clear HO0 HC0 HB0 HX0 HZ0 x0 x1 x2 x3 x4 x5 x6 x7
   by_cases hlt:j<nk
   ·obtain⟨t,ht⟩:=getX HNK.out hlt
    obtain⟨bb,off,rfl,hka⟩:=(HK.out.below (below_less HW.out hBw)).some (by have:=HNK.out;omega)
    obtain⟨k',m',a',b',g',n',s',kk,sa',sc',ao',cap',rfl,⟨e0,e1,e2,e3,e4,e5,e6,e7⟩,hv'⟩:=hka.kid ht
    have hmem:=List.mem_of_getElem? ht
    have HTK:Hid (ks.take (j+1)=ks.take j++[.mk k' m' a' b' g' n' s' kk]):=takeX ht
    have hsr:=HW.out.size
    have hzl:=HZ.out.lt
    obtain⟨sl',hsl'⟩:∃sl',s'.length=sl':=⟨_,rfl⟩
    obtain⟨nk',hnk'⟩:∃nk',kk.length=nk':=⟨_,rfl⟩
    rw[hsl',hnk']at hv'
    rw[hsl']at e6
    rw[hnk']at e7
    have W3:Below wr.heap.size wr (wr.alloc (.cells (n8 k' m' a' b' g' n' sa' sl' sc' ao' nk' cap') 25)):=(Below.refl _ wr).alloc (Nat.le_refl _) _
    have CN:=HI.out _ _ (wr.alloc (.cells (n8 k' m' a' b' g' n' sa' sl' sc' ao' nk' cap') 25)) hmem (hv'.keep (below_less W3 (by omega))) (by simp;omega)
    have HO3:Hid ((wr.alloc (.cells (n8 k' m' a' b' g' n' sa' sl' sc' ao' nk' cap') 25)).ownsRow (w.heap.size+1+1) 25 8 (.slice va j vc) j xs):=rng.own_below' HO.out W3
    have HC3:Hid (KC (Value.slice va j vc).ownBlock (w.heap.size+1+1) (wr.alloc (.cells (n8 k' m' a' b' g' n' sa' sl' sc' ao' nk' cap') 25)) (ks.take j) xs):=HC.out.to W3.size (fun k _ hk _=>W3.block k hk) (fun x e=>.inl e)
    have HW3:Hid (Below w.heap.size w (wr.alloc (.cells (n8 k' m' a' b' g' n' sa' sl' sc' ao' nk' cap') 25))):=HW.out.trans (below_less W3 hsr)
    have HX3:Hid (Bk (wr.alloc (.cells (n8 k' m' a' b' g' n' sa' sl' sc' ao' nk' cap') 25)) w.heap.size (n8 k m a b g n sa sl sc (some ⟨bb,off,none⟩) nk cap) 25):=HX.out.on W3
    have HZ3:Hid (Bk (wr.alloc (.cells (n8 k' m' a' b' g' n' sa' sl' sc' ao' nk' cap') 25)) (w.heap.size+1) (n8 0 0 0 0 false ⟨#[]⟩ none 0 0 none 0 0) 25):=HZ.out.on W3
    have hz3:(wr.alloc (.cells (n8 k' m' a' b' g' n' sa' sl' sc' ao' nk' cap') 25)).heap.size=wr.heap.size+1:=by simp
    clear hka hv' ht hmem W3 HO HC HW HX HZ hsl' hnk'
    go_wp2_with fail
    go_at_call 6
    refine CN.mono ?_
    clear CN
    rintro e w4⟨v',rfl,hf,hb⟩
    obtain⟨k2,m2,a2,b2,g2,n2,s2,kk2,ra,rc,qa,qc,e2',rfl,_⟩:=(hf w4 (fun _ _ _=>rfl)).open
    cases e2'
    obtain⟨rl,hrl⟩:∃rl,s'.length=rl:=⟨_,rfl⟩
    obtain⟨qn,hqn⟩:∃qn,kk.length=qn:=⟨_,rfl⟩
    rw[hrl,hqn]at hf⊢
    have hs4:=hb.size
    have HF4:Hid (Frs (wr.heap.size+1) w4.heap.size w4 (.mk k' m' a' b' g' n' s' kk) (.agg (n8 k' m' a' b' g' n' ra rl rc qa qn qc))):=by rw[hz3]at hf;exact hf
    have HO4:Hid (w4.ownsRow (w.heap.size+1+1) 25 8 (.slice va j vc) j xs):=rng.own_below' HO3.out hb
    have HC4:Hid (KC (Value.slice va j vc).ownBlock (w.heap.size+1+1) w4 (ks.take j) xs):=HC3.out.to hb.size (fun k _ hk _=>hb.block k hk) (fun x e=>.inl e)
    have HW4:Hid (Below w.heap.size w w4):=HW3.out.trans (below_less hb (by omega))
    have HX4:Hid (Bk w4 w.heap.size (n8 k m a b g n sa sl sc (some ⟨bb,off,none⟩) nk cap) 25):=HX3.out.on hb
    have HZ4:Hid (Bk w4 (w.heap.size+1) (n8 0 0 0 0 false ⟨#[]⟩ none 0 0 none 0 0) 25):=HZ3.out.on hb
    have HLO:Hid (∀x,(Value.slice va j vc).ownBlock=some x→x<wr.heap.size+1):=fun x e=>by have:=(HO3.out.lt x e).2;omega
    clear hf hb HO3 HC3 HW3 HX3 HZ3 hrl hqn
    have hnews:∀(u:Nat)x,([.int .i64 k',.int .i64 m',.int .i64 a',.int .i64 b',.bool g',.string n',.slice ra rl rc,.slice qa qn qc]:List Value)[u]?=some x→(w4.alloc (.cells (n8 k' m' a' b' g' n' ra rl rc qa qn qc) 25)).cell? ((⟨w4.heap.size,0,none⟩:Addr).add u)=some x:=fun u x hx=>by
     rw[Addr.add_lit]
     have:=(Bk.new w4 (n8 k' m' a' b' g' n' ra rl rc qa qn qc) 25).cell u (u:=x) (by simpa using hx)
     simpa using this
    have HNW:Hid _:=hnews
    clear hnews
    go_wp2_with(at_builtin;refine wpList_append_own_at _ rfl _ _ 23 rfl (w.heap.size+1+1) 25 i0 (.agg (n8 0 0 0 0 false ⟨#[]⟩ none 0 0 none 0 0)) 8 104 Tryz.underlying23 hi hz0 hz1 hz2 rfl (by decide) _ _ _ rfl (HO4.out.alloc _) ⟨w4.heap.size,0,none⟩ 1 1 [.int .i64 k',.int .i64 m',.int .i64 a',.int .i64 b',.bool g',.string n',.slice ra rl rc,.slice qa qn qc] rfl rfl HNW.out ?cc1 ?cc2 ?cc3 ?cc4 ?_)
    case cc1=>intro u hu;simp only[List.mem_cons,List.mem_nil_iff,or_false]at hu;rcases hu with rfl|rfl|rfl|rfl|rfl|rfl|rfl|rfl<;>rfl
    case cc2=>unfold maxLen;omega
    case cc3=>omega
    case cc4=>simp;omega
    intro v'' w5 ho5 hg5 _ hat
    obtain⟨vb,vn,vcc,rfl⟩:=own_form ho5
    obtain rfl:vn=j+1:=by
     rcases ho5.2 with⟨e,h0⟩|⟨g1,c1,cu1,e,_⟩
     ·omega
     ·cases e;rfl
    have W45:Below w4.heap.size w4 (w4.alloc (.cells (n8 k' m' a' b' g' n' ra rl rc qa qn qc) 25)):=(Below.refl _ _).alloc (Nat.le_refl _) _
    have HO6:Hid (w5.ownsRow (w.heap.size+1+1) 25 8 (.slice vb (j+1) vcc) (j+1) (xs++[.int .i64 k',.int .i64 m',.int .i64 a',.int .i64 b',.bool g',.string n',.slice ra rl rc,.slice qa qn qc])):=ho5
    have HW6:Hid (Below w.heap.size w w5):=(HW4.out.trans (below_less W45 (by omega))).grown hg5 (by simp;omega) (fun x e=>by have:=(HO4.out.lt x e).1;omega)
    have hgx:∀x,(Value.slice va j vc).ownBlock=some x→w.heap.size+1<x:=fun x e=>by have:=(HO4.out.lt x e).1;omega
    have HX6:Hid (Bk w5 w.heap.size (n8 k m a b g n sa sl sc (some ⟨bb,off,none⟩) nk cap) 25):=(hg5.block _ (HX4.out.past _).lt (fun e=>by have:=hgx _ e.symm;omega)).trans (HX4.out.past _)
    have HZ6:Hid (Bk w5 (w.heap.size+1) (n8 0 0 0 0 false ⟨#[]⟩ none 0 0 none 0 0) 25):=(hg5.block _ (HZ4.out.past _).lt (fun e=>by have:=hgx _ e.symm;omega)).trans (HZ4.out.past _)
    have hs45:(w4.alloc (.cells (n8 k' m' a' b' g' n' ra rl rc qa qn qc) 25)).heap.size=w4.heap.size+1:=by simp
    have HC6:Hid (KC (Value.slice vb (j+1) vcc).ownBlock (w.heap.size+1+1) w5 (ks.take (j+1)) (xs++[.int .i64 k',.int .i64 m',.int .i64 a',.int .i64 b',.bool g',.string n',.slice ra rl rc,.slice qa qn qc])):=by
     unfold Hid
     rw[HTK.out]
     have c5:KC (Value.slice va j vc).ownBlock (w.heap.size+1+1) (w4.alloc (.cells (n8 k' m' a' b' g' n' ra rl rc qa qn qc) 25)) (ks.take j) xs:=HC4.out.to W45.size (fun k _ hk _=>W45.block k hk) (fun x e=>.inl e)
     have c6:=c5.snoc (.mk k' m' a' b' g' n' s' kk) k' m' a' b' g' n' ra rl rc qa qn qc (wr.heap.size+1) w4.heap.size (by omega) (by omega) (fun x e=>.inl (HLO.out x e)) (HF4.out.at fun q hq1 hq2=>W45.block q hq2)
     refine c6.to hg5.size (fun q _ hq hne=>hg5.block q hq hne) (fun x e=>?_)
     rcases hat with h|h
     ·rw[h]at e;exact .inl e
     ·rw[h]at e;cases e;exact .inr (by omega)
    clear ho5 hg5 hat W45 hgx HO4 HC4 HW4 HX4 HZ4 HF4 HNW HLO
    go_wp2
    go_roundg(nk-(j+1))
    case measure=>omega
    case rel=>exact⟨j+1,vcc,vb,_,rfl,by omega,by go_num,HO6,HC6,HW6,HX6,HZ6⟩
   ·have hjn:j=nk:=by omega
    obtain rfl:=hjn
    have HC1:Hid (KC (Value.slice va j vc).ownBlock (w.heap.size+1+1) wr ks xs):=by
     have:=HC.out
     rw[List.take_of_length_le (by have:=HNK.out;omega)]at this
     exact this
    obtain⟨x0,x1,x2,x3,x4,x5,x6,x7⟩:=Bk.c8 HX.out
    have f7:=HX.out.frozen 7
    have f6:=HX.out.frozen 6
    have hzl:=HZ.out.lt
    clear HC
    obtain⟨w5,hw5⟩:∃w5,wr.setCell ⟨w.heap.size,7,none⟩ (.slice va j vc)=w5:=⟨_,rfl⟩
    have HW5N:Hid (wr.setCell ⟨w.heap.size,7,none⟩ (.slice va j vc)=w5):=hw5
    have hsz5:w5.heap.size=wr.heap.size:=by rw[←hw5];simp[World.setCell]
    have HX5:Hid (Bk w5 w.heap.size (n8 k m a b g n sa sl sc va j vc) 25):=by unfold Hid;rw[←hw5];have:=HX.out.set 7 (.slice va j vc);simpa using this
    have HZ5:Hid (Bk w5 (w.heap.size+1) (n8 0 0 0 0 false ⟨#[]⟩ none 0 0 none 0 0) 25):=by unfold Hid;rw[←hw5];exact HZ.out.apart (by omega) _
    have HW5:Hid (Below w.heap.size w w5):=by unfold Hid;rw[←hw5];exact HW.out.setCell (p:=⟨w.heap.size,7,none⟩) (Nat.le_refl _) _
    have HO5:Hid (w5.ownsRow (w.heap.size+1+1) 25 8 (.slice va j vc) j xs):=by
     unfold Hid;rw[←hw5]
     refine HO.out.kept (grown_set wr w.heap.size _ _) ?_
     cases hob:(Value.slice va j vc).ownBlock with
     |none=>exact .inl rfl
     |some y=>exact .inr fun e=>by have:=(HO.out.lt y hob).1;cases e;omega
    have HC5:Hid (KC (Value.slice va j vc).ownBlock (w.heap.size+1+1) w5 ks xs):=HC1.out.to (by omega) (fun q hq1 hq2 _=>by rw[←hw5];exact Below.heap_setCell _ _ _ _ (by simp only;omega)) (fun x e=>.inl e)
    have hvc:j≤vc∧vc≤maxLen∧(va=none→vc=0):=by
     rcases HO.out.2 with⟨e,h0⟩|⟨g1,c1,cu1,e,_,_,h1,h2,_⟩
     ·cases e;exact⟨by omega,by unfold maxLen;omega,fun _=>rfl⟩
     ·cases e;exact⟨h1,h2,fun e=>by cases e⟩
    have HVC:Hid (j≤vc∧vc≤maxLen∧(va=none→vc=0)):=hvc
    clear hw5 HX HZ HW HO HC1 hvc
    cases hsa:sa with
    |none=>
     subst hsa
     have hst0:s=[]:=by
      rcases HRV.out.1 with e|⟨b,off,e,_⟩
      ·exact e
      ·cases e
     have hsc0:=HRV.out.2.2 rfl
     subst hst0
     subst hsc0
     have hsl00:sl=0:=HSL.out.symm
     subst hsl00
     have y6:=cell_past (.cells #[] 45) (HX5.out.cell 6 (u:=.slice none 0 0) rfl)
     have g6:=frozen_past (.cells #[] 45) HX5.out.lt (HX5.out.frozen 6)
     have hown2:(w5.alloc (.cells #[] 45)).ownsRow w5.heap.size 45 2 (.slice (some ⟨w5.heap.size,0,none⟩) 0 0) 0 []:=World.ownsRow_made w5 #[] 0 (Nat.le_refl _) (by decide) rfl
     have HR6:Hid ((w5.alloc (.cells #[] 45)).ownsRow w5.heap.size 45 2 (.slice (some ⟨w5.heap.size,0,none⟩) 0 0) 0 (rng.flat ([]:List R))):=hown2
     have HB6:Hid (Below w5.heap.size w5 (w5.alloc (.cells #[] 45))):=(Below.refl _ _).alloc (Nat.le_refl _) _
     have hlo5:w.heap.size+1+1≤w5.heap.size:=by omega
     clear x0 x1 x2 x3 x4 x5 x6 HRV hsz5 hzl f6
     go_upto_region 8 with fail
     rw[HW5N.out]
     go_upto_region 9 with(at_builtin;refine wpList_append_own_none rfl _ _ 22 rfl w5.heap.size 45 ir 2 Tryz.underlying22 hir _ _ _ rfl hown2 rfl ?_)
     generalize w5.alloc (.cells #[] 45)=w6 at*
     obtain⟨ra,hra⟩:∃ra:Option Addr,some (⟨w5.heap.size,0,none⟩:Addr)=ra:=⟨_,rfl⟩
     rw[hra]at HR6⊢
     obtain⟨sl,hsl⟩:∃sl:Nat,0=sl:=⟨_,rfl⟩
     obtain⟨rc,hrc⟩:∃rc:Nat,rc=0:=⟨_,rfl⟩
     have HRC:Hid (sl≤rc∧rc≤maxLen∧(ra=none→rc=0)):=⟨by omega,by unfold maxLen;omega,fun _=>hrc⟩
     have HSL2:Hid (([]:List R).length=sl):=hsl
     clear hown2 y6 g6 hra
     have hg0:(.slice ra 0 0:Value)=.slice ra sl rc:=by rw[←hsl,hrc]
     rw[show(rng.flat ([]:List R))=rng.flat ([]:List R)from rfl,hg0]at HR6
     rw[hg0]
     have HR6':Hid (w6.ownsRow w5.heap.size 45 2 (.slice ra sl rc) sl (rng.flat ([]:List R))):=by unfold Hid;have:=HR6.out;rw[←hsl]at this⊢;exact this
     clear HR6 hg0 hsl hrc
     have HX6:=HX5.out.keep HB6.out (by omega)
     have HZ6:=HZ5.out.keep HB6.out (by omega)
     have HO6:=own_keep HO5.out HB6.out
     have HC6:KC (Value.slice va j vc).ownBlock (w.heap.size+1+1) w6 ks xs:=HC5.out.to HB6.out.size (fun q _ hq _=>HB6.out.block q hq) (fun x e=>.inl e)
     have HW6:Below w.heap.size w w6:=HW5.out.trans (below_less HB6.out (by omega))
     obtain⟨w7,hw7⟩:∃w7,w6.setCell ⟨w.heap.size,6,none⟩ (.slice ra sl rc)=w7:=⟨_,rfl⟩
     rw[hw7]
     have hs67:w7.heap.size=w6.heap.size:=by rw[←hw7];simp[World.setCell]
     have hs56:=HB6.out.size
     have HX7:Hid (Bk w7 w.heap.size (n8 k m a b g n ra sl rc va j vc) 25):=by unfold Hid;rw[←hw7];have:=HX6.set 6 (.slice ra sl rc);simpa using this
     have HZ7:Hid (Bk w7 (w.heap.size+1) (n8 0 0 0 0 false ⟨#[]⟩ none 0 0 none 0 0) 25):=by unfold Hid;rw[←hw7];exact HZ6.apart (by omega) _
     have HR7:Hid (w7.ownsRow w5.heap.size 45 2 (.slice ra sl rc) sl (rng.flat ([]:List R))):=by
      unfold Hid;rw[←hw7];exact HR6'.out.kept (grown_set w6 w.heap.size _ _) (own_bk HR6'.out HX6 (by decide))
     have HO7:Hid (w7.ownsRow (w.heap.size+1+1) 25 8 (.slice va j vc) j xs):=by
      unfold Hid;rw[←hw7]
      refine HO6.kept (grown_set w6 w.heap.size _ _) ?_
      cases hob:(Value.slice va j vc).ownBlock with
      |none=>exact .inl rfl
      |some y=>exact .inr fun e=>by have:=(HO6.lt y hob).1;cases e;omega
     have HC7:Hid (KC (Value.slice va j vc).ownBlock (w.heap.size+1+1) w7 ks xs):=HC6.to (by omega) (fun q hq1 hq2 _=>by rw[←hw7];exact Below.heap_setCell _ _ _ _ (by simp only;omega)) (fun x e=>.inl e)
     have HW7:Hid (Below w.heap.size w w7):=by unfold Hid;rw[←hw7];exact HW6.setCell (p:=⟨w.heap.size,6,none⟩) (Nat.le_refl _) _
     have HONE:Hid (((n8 k m a b g n ra sl rc va j vc):Array Value).all (·.oneCell')=true):=by unfold Hid;kernel_rfl
     obtain⟨y0,y1,y2,y3,y4,y5,y6,y7⟩:=Bk.c8 HX7.out
     clear hw7 HX6 HZ6 HO6 HC6 HW6 HR6' HB6 HX5 HZ5 HO5 HC5 HW5
     go_wp2_with(refine wpList_store_row rfl 25 _ _ rfl (w.heap.size+1) (n8 k m a b g n ra sl rc va j vc) rfl rfl _ _ HZ7.out infNd rfl HONE.out ?_)
     refine bodyPost_ret (results_cell_row Tryz.results6 _ _ (w.heap.size+1) _ (n8 k m a b g n ra sl rc va j vc) _ _ rfl (setRow_heap _ _ _ _ _ _ HZ7.out) Tryz.underlying25 rfl infNd) rfl ?_
     have hs8:(w7.setRow (w.heap.size+1) (n8 k m a b g n ra sl rc va j vc)).heap.size=w7.heap.size:=by simp
     refine⟨_,rfl,?_,below_setRow HW7.out (by omega) _⟩
     have HR8:(w7.setRow (w.heap.size+1) (n8 k m a b g n ra sl rc va j vc)).ownsRow (w.heap.size+1+1) 45 2 (.slice ra sl rc) sl (rng.flat ([]:List R)):=own_less (HR7.out.kept (grown_row' _ _ _) (own_bk HR7.out HZ7.out (by decide))) (by omega)
     have HO8:(w7.setRow (w.heap.size+1) (n8 k m a b g n ra sl rc va j vc)).ownsRow (w.heap.size+1+1) 25 8 (.slice va j vc) j xs:=by
      refine HO7.out.kept (grown_row' _ _ _) ?_
      cases hob:(Value.slice va j vc).ownBlock with
      |none=>exact .inl rfl
      |some y=>exact .inr fun e=>by have:=(HO7.out.lt y hob).1;cases e;omega
     have HC8:KC (Value.slice va j vc).ownBlock (w.heap.size+1+1) (w7.setRow (w.heap.size+1) (n8 k m a b g n ra sl rc va j vc)) ks xs:=HC7.out.to (by omega) (fun q hq1 hq2 _=>setRow_other _ _ _ _ (by omega)) (fun x e=>.inl e)
     exact(frs_shut HI64.out HNM.out HSL2.out HNK.out HR8 HO8 HC8 HVC.out HRC.out).wide (by omega) (Nat.le_refl _)
    |some ad=>
     subst hsa
     have y6:=cell_past (.cells #[] 45) (HX5.out.cell 6 (u:=.slice (some ad) sl sc) rfl)
     have HXP:Hid (Bk (w5.alloc (.cells #[] 45)) w.heap.size (n8 k m a b g n (some ad) sl sc va j vc) 25):=HX5.out.past _
     have hbb:Below B w w5:=below_less HW5.out hBw
     have HVN:Hid (∀(q:Nat)u,(rng.flat s)[q]?=some u→w5.cell? (ad.add q)=some u):=rv_news (rv_below HRV.out.1 HRV.out.2.1 hbb)
     have hlo5:w.heap.size+1+1≤w5.heap.size:=by omega
     clear x0 x1 x2 x3 x4 x5 x6 HRV hsz5 hzl f6 hbb
     go_upto_region 8 with fail
     rw[HW5N.out]
     go_wp2_with(at_builtin;refine wpList_append_own _ rfl _ _ 22 rfl w5.heap.size 45 ir (.agg #[.int .i64 0,.int .i64 0]) 2 16 Tryz.underlying22 hir hy0 hy1 hy2 rfl (by decide) _ _ _ rfl (World.ownsRow_made w5 #[] 0 (Nat.le_refl _) (by decide) rfl) ad sl sc (rng.flat s) rfl (by rw[rng.flat_length,HSL.out]) (fun q u hj=>(World.grownBy_alloc w5 _ none).cell (HVN.out q u hj) (by simp)) (rng.flat_one s) (by unfold maxLen;omega) (by omega) (by simp) ?_)
     intro v' w6 ho6 hg6 _
     obtain⟨ra,rn,rc,rfl⟩:=own_form ho6
     have HB6:Hid (Below w5.heap.size w5 w6):=((Below.refl w5.heap.size w5).alloc (Nat.le_refl _) _).grown hg6 (by simp) (fun k e=>by cases e;exact Nat.le_refl _)
     have HR6:w6.ownsRow w5.heap.size 45 2 (.slice ra rn rc) sl (rng.flat s):=by simpa using ho6
     obtain rfl:sl=rn:=by
      rcases HR6.2 with⟨e,h0⟩|⟨g1,c1,cu1,e,_⟩
      ·cases e;exact h0
      ·cases e;rfl
     have hne5:w.heap.size≠w5.heap.size:=by omega
     have HRC:Hid (sl≤rc∧rc≤maxLen∧(ra=none→rc=0)):=by
      rcases HR6.2 with⟨e,h0⟩|⟨g1,c1,cu1,e,_,_,h1,h2,_⟩
      ·cases e;exact⟨by omega,by unfold maxLen;omega,fun _=>rfl⟩
      ·cases e;exact⟨h1,h2,fun e=>by cases e⟩
     have hx6:Bk w6 w.heap.size (n8 k m a b g n (some ad) sl sc va j vc) 25:=(hg6.block _ HXP.out.lt (fun e=>hne5 (by simpa[Value.ownBlock]using e))).trans HXP.out
     have y6':=hx6.cell 6 (u:=.slice (some ad) sl sc) rfl
     have g6':=hx6.frozen 6
     have HR6':Hid (w6.ownsRow w5.heap.size 45 2 (.slice ra sl rc) sl (rng.flat s)):=HR6
     have HSL2:Hid (s.length=sl):=HSL.out
     clear ho6 hg6 HR6 hx6 HVN HXP
     go_upto_region 9 with fail
     clear y6 y6' g6'
     have HX6:=HX5.out.keep HB6.out (by omega)
     have HZ6:=HZ5.out.keep HB6.out (by omega)
     have HO6:=own_keep HO5.out HB6.out
     have HC6:KC (Value.slice va j vc).ownBlock (w.heap.size+1+1) w6 ks xs:=HC5.out.to HB6.out.size (fun q _ hq _=>HB6.out.block q hq) (fun x e=>.inl e)
     have HW6:Below w.heap.size w w6:=HW5.out.trans (below_less HB6.out (by omega))
     obtain⟨w7,hw7⟩:∃w7,w6.setCell ⟨w.heap.size,6,none⟩ (.slice ra sl rc)=w7:=⟨_,rfl⟩
     rw[hw7]
     have hs67:w7.heap.size=w6.heap.size:=by rw[←hw7];simp[World.setCell]
     have hs56:=HB6.out.size
     have HX7:Hid (Bk w7 w.heap.size (n8 k m a b g n ra sl rc va j vc) 25):=by unfold Hid;rw[←hw7];have:=HX6.set 6 (.slice ra sl rc);simpa using this
     have HZ7:Hid (Bk w7 (w.heap.size+1) (n8 0 0 0 0 false ⟨#[]⟩ none 0 0 none 0 0) 25):=by unfold Hid;rw[←hw7];exact HZ6.apart (by omega) _
     have HR7:Hid (w7.ownsRow w5.heap.size 45 2 (.slice ra sl rc) sl (rng.flat s)):=by
      unfold Hid;rw[←hw7];exact HR6'.out.kept (grown_set w6 w.heap.size _ _) (own_bk HR6'.out HX6 (by decide))
     have HO7:Hid (w7.ownsRow (w.heap.size+1+1) 25 8 (.slice va j vc) j xs):=by
      unfold Hid;rw[←hw7]
      refine HO6.kept (grown_set w6 w.heap.size _ _) ?_
      cases hob:(Value.slice va j vc).ownBlock with
      |none=>exact .inl rfl
      |some y=>exact .inr fun e=>by have:=(HO6.lt y hob).1;cases e;omega
     have HC7:Hid (KC (Value.slice va j vc).ownBlock (w.heap.size+1+1) w7 ks xs):=HC6.to (by omega) (fun q hq1 hq2 _=>by rw[←hw7];exact Below.heap_setCell _ _ _ _ (by simp only;omega)) (fun x e=>.inl e)
     have HW7:Hid (Below w.heap.size w w7):=by unfold Hid;rw[←hw7];exact HW6.setCell (p:=⟨w.heap.size,6,none⟩) (Nat.le_refl _) _
     have HONE:Hid (((n8 k m a b g n ra sl rc va j vc):Array Value).all (·.oneCell')=true):=by unfold Hid;kernel_rfl
     obtain⟨y0,y1,y2,y3,y4,y5,y6,y7⟩:=Bk.c8 HX7.out
     clear hw7 HX6 HZ6 HO6 HC6 HW6 HR6' HB6 HX5 HZ5 HO5 HC5 HW5
     go_wp2_with(refine wpList_store_row rfl 25 _ _ rfl (w.heap.size+1) (n8 k m a b g n ra sl rc va j vc) rfl rfl _ _ HZ7.out infNd rfl HONE.out ?_)
     refine bodyPost_ret (results_cell_row Tryz.results6 _ _ (w.heap.size+1) _ (n8 k m a b g n ra sl rc va j vc) _ _ rfl (setRow_heap _ _ _ _ _ _ HZ7.out) Tryz.underlying25 rfl infNd) rfl ?_
     have hs8:(w7.setRow (w.heap.size+1) (n8 k m a b g n ra sl rc va j vc)).heap.size=w7.heap.size:=by simp
     refine⟨_,rfl,?_,below_setRow HW7.out (by omega) _⟩
     have HR8:(w7.setRow (w.heap.size+1) (n8 k m a b g n ra sl rc va j vc)).ownsRow (w.heap.size+1+1) 45 2 (.slice ra sl rc) sl (rng.flat s):=own_less (HR7.out.kept (grown_row' _ _ _) (own_bk HR7.out HZ7.out (by decide))) (by omega)
     have HO8:(w7.setRow (w.heap.size+1) (n8 k m a b g n ra sl rc va j vc)).ownsRow (w.heap.size+1+1) 25 8 (.slice va j vc) j xs:=by
      refine HO7.out.kept (grown_row' _ _ _) ?_
      cases hob:(Value.slice va j vc).ownBlock with
      |none=>exact .inl rfl
      |some y=>exact .inr fun e=>by have:=(HO7.out.lt y hob).1;cases e;omega
     have HC8:KC (Value.slice va j vc).ownBlock (w.heap.size+1+1) (w7.setRow (w.heap.size+1) (n8 k m a b g n ra sl rc va j vc)) ks xs:=HC7.out.to (by omega) (fun q hq1 hq2 _=>setRow_other _ _ _ _ (by omega)) (fun x e=>.inl e)
     exact(frs_shut HI64.out HNM.out HSL2.out HNK.out HR8 HO8 HC8 HVC.out HRC.out).wide (by omega) (Nat.le_refl _)
end Go.Proofs.YtbbeciofgnkggaaGreatDoor.cmp
end
namespace Go.Proofs.YtbbeciofgnkggaaGreatDoor.trc
open Go.ChangeShapes Go.WideShapes Go.ChangeAt Go.RowKit Go.Deep nod
open rng(R RV)
open tre(shortN shortL)
open cmp(setsN setsL)
theorem wall_mem{H:Type}{P:Program}{e:TypeId}{d:DataW H}{q:Nat}:∀{l:List (DataW H)},d∈l→q∈d.weights P e→q∈DataW.weightsAll P e l
 |[],h,_=>by cases h
 |x::l,h,hq=>by
  rw[DataW.weightsAll]
  rcases List.mem_cons.1 h with rfl|h
  ·exact List.mem_append_left _ hq
  ·exact List.mem_append_right _ (wall_mem h hq)
def fitA(t:Nd):Prop:=shortN t∧setsN t
theorem shortL_of:∀{ks:List Nd},(∀t∈ks,shortN t)→shortL ks
 |[],_=>by rw[shortL];trivial
 |x::ks,h=>by rw[shortL];exact⟨h x (by simp),shortL_of fun t ht=>h t (by simp[ht])⟩
theorem setsL_of:∀{ks:List Nd},(∀t∈ks,setsN t)→setsL ks
 |[],_=>by rw[setsL];trivial
 |x::ks,h=>by rw[setsL];exact⟨h x (by simp),setsL_of fun t ht=>h t (by simp[ht])⟩
theorem fitA_of{k m a b:Int}{g:Bool}{n:ByteArray}{s:List R}{ks:List Nd}(h1:n.size≤140737488355327)(h2:s.length≤8796093021952)(h3:∀t∈ks,fitA t):fitA (.mk k m a b g n s ks):=
 ⟨by rw[shortN];exact⟨h1,shortL_of fun t ht=>(h3 t ht).1⟩,by rw[setsN];exact⟨h2,setsL_of fun t ht=>(h3 t ht).2⟩⟩
theorem open_short'{H:Type}{enc:TypeId×Value→H}{W:World}:∀(fuel:Nat)(cs:List Value)(x:DataW H×List MemPlace),DataW.trod enc Tryz.prog W 0 (fun _=>true) true fuel 25 cs=some x→
  ∃(t:Nd)(c0 c1 c2 c3 c4 c5 c6 c7:Value),cs=[c0,c1,c2,c3,c4,c5,c6,c7]∧NV W.heap.size W t (.agg #[c0,c1,c2,c3,c4,c5,c6,c7])∧((∀q∈x.1.weights Tryz.prog 25,q≤reachBytes)→fitA t):=by
 intro fuel
 induction fuel using Nat.strongRecOn with
 |_ fuel ih=>
 intro cs x h
 obtain⟨xs,n,hn,rfl,hl,hlen,hf⟩:=DataW.trod_struct Tryz.underlying25 h
 have c8:Tryz.prog.cellsOf 25=8:=by kernel_rfl
 rw[c8]at hl
 match cs,hl with
 |[c0,c1,c2,c3,c4,c5,c6,c7],_=>
 match xs,hlen with
 |[y0,y1,y2,y3,y4,y5,y6,y7],_=>
 have ci:Tryz.prog.cellsOf 3=1:=by kernel_rfl
 have cb:Tryz.prog.cellsOf 4=1:=by kernel_rfl
 have cs':Tryz.prog.cellsOf 9=1:=by kernel_rfl
 have cr:Tryz.prog.cellsOf 22=1:=by kernel_rfl
 have ck:Tryz.prog.cellsOf 23=1:=by kernel_rfl
 have g0:=hf 0 _ rfl
 have g1:=hf 1 _ rfl
 have g2:=hf 2 _ rfl
 have g3:=hf 3 _ rfl
 have g4:=hf 4 _ rfl
 have g5:=hf 5 _ rfl
 have g6:=hf 6 _ rfl
 have g7:=hf 7 _ rfl
 simp[ci,cb,cs',cr,ck]at g0 g1 g2 g3 g4 g5 g6 g7
 obtain⟨x0,hv0,_,w0⟩:=DataW.trod_int Tryz.underlying3 g0
 obtain⟨x1,hv1,_,w1⟩:=DataW.trod_int Tryz.underlying3 g1
 obtain⟨x2,hv2,_,w2⟩:=DataW.trod_int Tryz.underlying3 g2
 obtain⟨x3,hv3,_,w3⟩:=DataW.trod_int Tryz.underlying3 g3
 obtain⟨x4,hv4,_⟩:=DataW.trod_bool Tryz.underlying4 g4
 obtain⟨x5,hv5,hy5,w5⟩:=DataW.trod_string Tryz.underlying9 g5
 obtain⟨s,sa,sc,hv6,hs⟩:=open_set g6
 obtain rfl:c0=.int .i64 x0:=by simpa using hv0
 obtain rfl:c1=.int .i64 x1:=by simpa using hv1
 obtain rfl:c2=.int .i64 x2:=by simpa using hv2
 obtain rfl:c3=.int .i64 x3:=by simpa using hv3
 obtain rfl:c4=.bool x4:=by simpa using hv4
 obtain rfl:c5=.string x5:=by simpa using hv5
 subst hv6
 have hname:(∀q∈(DataW.agg (List.map (fun y:DataW H×List MemPlace=>y.1) [y0,y1,y2,y3,y4,y5,y6,y7])).weights Tryz.prog 25,q≤reachBytes)→x5.size≤140737488355327:=fun hq=>by
  have h1:=hq x5.data.toList.length (by
   rw[DataW.weights,Tryz.underlying25]
   exact DataW.weights_mem_each (j:=5) (t:=9) (d:=y5.1) rfl rfl _ (by rw[hy5];simp[DataW.weights]))
  have h2:=reachBytes_lt
  rw[Array.length_toList]at h1
  show x5.data.size≤_
  omega
 have hset:(∀q∈(DataW.agg (List.map (fun y:DataW H×List MemPlace=>y.1) [y0,y1,y2,y3,y4,y5,y6,y7])).weights Tryz.prog 25,q≤reachBytes)→s.length≤8796093021952:=fun hq=>by
  rcases DataW.trod_slice Tryz.underlying22 g6 with⟨hcs,_⟩|⟨a,len,cap,elems,rest,n',hn',hcs,hy6,_,hlc,hm,hlen',hel,hsp,_⟩
  ·have:s.length=0:=by simp at hcs;first|exact hcs.2.1|simp[hcs.2.1]|exact congrArg List.length hcs.2.1
   omega
  ·have hl:s.length=len:=by simp at hcs;first|exact hcs.2.1|simp[hcs.2.1]|exact congrArg List.length hcs.2.1
   have h1:=hq ((elems.length+rest.length)*Tryz.prog.bytesOf 45) (by
    rw[DataW.weights,Tryz.underlying25]
    exact DataW.weights_mem_each (j:=6) (t:=22) (d:=y6.1) rfl rfl _ (by rw[hy6];simp[DataW.weights,Tryz.underlying22]))
   rw[show Tryz.prog.bytesOf 45=16 by kernel_rfl]at h1
   unfold reachBytes at h1
   omega
 rcases DataW.trod_slice Tryz.underlying23 g7 with⟨hcs,_⟩|⟨a,len,cap,elems,rest,n',hn',hcs,hy7,_,hlc,hm,hlen',hel,hsp,_⟩
 ·obtain rfl:c7=.slice none 0 0:=by simpa using hcs
  exact⟨.mk x0 x1 x2 x3 x4 x5 s [],_,_,_,_,_,_,_,_,rfl,NV.shut (ks:=[]) ⟨wf64 w0,wf64 w1,wf64 w2,wf64 w3⟩ w5 hs ⟨by simp,by simp,fun _=>rfl⟩ (.inl rfl),fun hq=>fitA_of (hname hq) (hset hq) (by simp)⟩
 ·obtain rfl:c7=.slice (some a) len cap:=by simpa using hcs
  rcases Nat.eq_zero_or_pos len with h0|h0
  ·subst h0
   exact⟨.mk x0 x1 x2 x3 x4 x5 s [],_,_,_,_,_,_,_,.slice (some a) 0 cap,rfl,NV.shut (ks:=[]) ⟨wf64 w0,wf64 w1,wf64 w2,wf64 w3⟩ w5 hs ⟨by simp,hm,fun e=>(by cases e)⟩ (.inl rfl),fun hq=>fitA_of (hname hq) (hset hq) (by simp)⟩
  obtain⟨ab,ao,asp⟩:=a
  have hspot:asp=none:=by
   have h1:=hel 0 h0
   rw[c8]at h1
   rw[List.getElem?_eq_getElem (by omega:0<elems.length)]at h1
   cases hc:W.cells? 0 ((⟨ab,ao,asp⟩:Addr).add (0*8)) 8 with
   |none=>rw[hc]at h1;cases h1
   |some cs''=>
    rw[hc]at h1
    obtain⟨t,d0,d1,d2,d3,d4,d5,d6,d7,e,hnv,_⟩:=ih n' (by omega) cs'' _ h1
    obtain⟨_,_,hcell⟩:=World.cells?_some hc
    subst e
    have e0:=hcell 0 (by simp)
    simpa[Addr.add]using World.cell?_spot e0
  subst hspot
  have each:∀i,i<len→∃t:Nd,(∃v,At8 W ab (ao+i*8) v∧NV W.heap.size W t v)∧((∀q∈y7.1.weights Tryz.prog 23,q≤reachBytes)→fitA t):=by
   intro i hi
   have h1:=hel i hi
   rw[c8]at h1
   have hi':i<elems.length:=by omega
   rw[List.getElem?_eq_getElem hi']at h1
   cases hc:W.cells? 0 ((⟨ab,ao,none⟩:Addr).add (i*8)) 8 with
   |none=>rw[hc]at h1;cases h1
   |some cs''=>
    rw[hc]at h1
    obtain⟨t,d0,d1,d2,d3,d4,d5,d6,d7,e,hnv,hsh⟩:=ih n' (by omega) cs'' _ h1
    obtain⟨_,_,hcell⟩:=World.cells?_some hc
    subst e
    have e0:=hcell 0 (by simp)
    have e1:=hcell 1 (by simp)
    have e2:=hcell 2 (by simp)
    have e3:=hcell 3 (by simp)
    have e4:=hcell 4 (by simp)
    have e5:=hcell 5 (by simp)
    have e6:=hcell 6 (by simp)
    have e7:=hcell 7 (by simp)
    rw[Go.Deep.add_add,Addr.add_lit]at e0 e1 e2 e3 e4 e5 e6 e7
    exact⟨t,⟨_,⟨d0,d1,d2,d3,d4,d5,d6,d7,rfl,by simpa using e0,by simpa[Nat.add_assoc]using e1,by simpa[Nat.add_assoc]using e2,by simpa[Nat.add_assoc]using e3,by simpa[Nat.add_assoc]using e4,by simpa[Nat.add_assoc]using e5,by simpa[Nat.add_assoc]using e6,by simpa[Nat.add_assoc]using e7⟩,hnv⟩,fun hq=>hsh fun q hm=>hq q (by
     rw[hy7,DataW.weights,Tryz.underlying23]
     exact List.mem_cons_of_mem _ (List.mem_append_left _ (wall_mem (List.mem_map.2 ⟨_,List.getElem_mem hi',rfl⟩) hm)))⟩
  obtain⟨tf,hT⟩:=choose_lt each
  refine⟨.mk x0 x1 x2 x3 x4 x5 s ((List.range len).map tf),_,_,_,_,_,_,_,.slice (some ⟨ab,ao,none⟩) len cap,rfl,?_,fun hq=>?_⟩
  rotate_left
  ·refine fitA_of (hname hq) (hset hq) fun t ht=>?_
   obtain⟨i,hi,rfl⟩:=List.mem_map.1 ht
   refine(hT i (List.mem_range.1 hi)).2 fun q hm=>hq q ?_
   rw[DataW.weights,Tryz.underlying25]
   exact DataW.weights_mem_each (j:=7) (t:=23) (d:=y7.1) rfl rfl q hm
  have hlr:((List.range len).map tf).length=len:=by simp
  have:=NV.shut (k:=x0) (m:=x1) (a:=x2) (b:=x3) (g:=x4) (n:=x5) (s:=s) (ks:=(List.range len).map tf) (sa:=sa) (sc:=sc) (ao:=some ⟨ab,ao,none⟩) (cap:=cap) (B:=W.heap.size) (w:=W) ⟨wf64 w0,wf64 w1,wf64 w2,wf64 w3⟩ w5 hs ⟨by rw[hlr];exact hlc,hm,fun e=>(by cases e)⟩ ?_
  ·rw[hlr]at this;exact this
  ·obtain⟨⟨v0,h8,_⟩,_⟩:=hT 0 h0
   refine .inr ⟨ab,ao,rfl,?_,fun i t hi=>?_⟩
   ·obtain⟨_,_,_,_,_,_,_,_,_,hz,_⟩:=h8
    exact World.block_lt_of_cell? W _ hz
   ·rw[List.getElem?_map]at hi
    have hil:i<len:=by
     rcases Nat.lt_or_ge i len with h'|h'
     ·exact h'
     ·rw[List.getElem?_eq_none (by simpa using h')]at hi;cases hi
    rw[List.getElem?_range hil]at hi
    obtain rfl:tf i=t:=by simpa using hi
    exact(hT i hil).1
theorem open_short{H:Type}{enc:TypeId×Value→H}{W:World}{base:Nat}{v:Value}{d:DataW H}{p:List MemPlace}
  (hv:Value.okWide Tryz.prog W .any base 25 v)(h:DataW.Trod enc Tryz.prog W 0 (fun _=>true) true 25 v d p)(hq:∀q∈d.weights Tryz.prog 25,q≤reachBytes):
  ∃t:Nd,NV W.heap.size W t v∧fitA t:=by
 obtain⟨fuel,hf⟩:=h
 obtain⟨t,c0,c1,c2,c3,c4,c5,c6,c7,e,hn,hs⟩:=open_short' fuel _ _ hf
 obtain⟨cs,rfl,_⟩:=okWide_struct Tryz.underlying25 hv
 have hvv:cs=#[c0,c1,c2,c3,c4,c5,c6,c7]:=by
  have:cs.toList=[c0,c1,c2,c3,c4,c5,c6,c7]:=by simpa[Value.cells]using e
  exact Array.toList_inj.1 this
 subst hvv
 exact⟨t,hn,hs hq⟩
/--What the weights of all arguments say of one. -/
theorem sized_part{H:Type}{P:Program}{ts:List TypeId}{ds:List (DataW H)}(h:(DataW.weightsEach P ts ds).all (·≤reachBytes)=true){j:Nat}{t:TypeId}{d:DataW H}(ht:ts[j]?=some t)(hd:ds[j]?=some d):∀q∈d.weights P t,q≤reachBytes:=fun q hq=>by
 have:=List.all_eq_true.1 h q (DataW.weights_mem_each ht hd q hq)
 simpa using this
end Go.Proofs.YtbbeciofgnkggaaGreatDoor.trc
