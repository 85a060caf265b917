import Derived.Test.YtgbkolonhddolaaGreatDoorBpPrs16
import Derived.Test.YtgbkolonhddolaaGreatDoorBpPrs15
import Derived.Test.YtgbkolonhddolaaGreatDoorBpNod1
import Derived.Test.YtgbkolonhddolaaGreatDoorBpUtf1
set_option linter.unusedSimpArgs false
set_option linter.unusedVariables false
set_option maxRecDepth 100000
set_option maxHeartbeats 1000000
theorem Go.Proofs.YtgbkolonhddolaaGreatDoor.hd17{p:Prop}(h:p):Go.RowKit.Hid p:=h
namespace Go.Proofs.YtgbkolonhddolaaGreatDoor.prs
open nod tok
open tre(grpN grpL)
/--The alternatives that a tree has. -/
def dE(t:Nd):List Nd:=if t.kind=7 then t.kids else[t]
theorem qd(b:Bd):dE b.node=b.dH++[eB b.pts]:=by
 unfold dE Bd.node
 by_cases h:b.dH.isEmpty
 ·rw[if_pos h,if_neg (by simp[eB,nd,Nd.kind]),List.isEmpty_iff.1 h];rfl
 ·rw[if_neg h,if_pos (by simp[nd,Nd.kind])];rfl
theorem Cs{bN:Nd→Bool}{f1 f2 g:Nat→Int}{n1 n2:Nat}(hg1:∀i,i<n1→g (0+i)=f1 i)(hg2:∀i,i<n2→g (n1+1+i)=f2 i)(hb:g n1=124)
  (hin1:∀a k v a',token f1 n1 a k=.ok v a'→a<a')(hc1:∀c p a k,token f1 n1 a k=.no c p→c≠0)(hin2:∀a k v a',token f2 n2 a k=.ok v a'→a<a')(hc2:∀c p a k,token f2 n2 a k=.no c p→c≠0)
  (h1:(ax bN f1 n1).2.1=0)(h2:(ax bN f2 n2).2.1=0)(hz:grpN (ax bN f2 n2).1=0):
  ax bN g (n1+1+n2)=(nd 7 0 0 0 false [] (dE (ax bN f1 n1).1++dE (ax bN f2 n2).1),0,0)∨(ax bN g (n1+1+n2)).2.1=4:=by
 obtain⟨hn1,h01,hl1,hf1,sa,ba,hr1,hb1,hcs1,ha1,ht1⟩:=fJ h1
 obtain⟨hn2,h02,hl2,hf2,sf,bf,hr2,hb2,hcs2,ha2,ht2⟩:=fJ h2
 have hnm:=rZ hr2 hb2 hf2 ha2 (ht2▸hz)
 rw[ht1,ht2,qd,qd]
 by_cases hN:n1+1+n2≤2000
 ·have es:bD g (n1+1+n2)=scanR g (n1+1+n2) (n1+1+n2) 0 0:=by unfold bD;rw[if_pos hN]
  have ew:=GH f1 f2 g n1 n2 hg1 hg2 hb hin1 hc1 hin2 hc2 h01 h02 hl1
  have er:=Kr (wQ 0 _ _ _ hr1) hb1 hcs1 (wQ (n1+1) _ _ _ hr2) hb2 hnm (by intro t hx;obtain⟨u,hu,rfl⟩:=List.mem_map.1 hx;exact hf2 u hu) (c:={bare 5 with s:=n1,e:=n1+1}) rfl
  have hi:=qR hr2 inv0
  obtain⟨nx,bs,cs,nm⟩:=sf
  obtain rfl:cs=[]:=hcs2
  have hnode:Bd.node ⟨ba.iJ,(ba.dH++[eB ba.pts])++bf.dH,bf.pts⟩=nd 7 0 0 0 false [] (ba.dH++[eB ba.pts]++(bf.dH++[eB bf.pts])):=by
   unfold Bd.node
   rw[if_neg (by simp)]
   simp only[List.append_assoc]
  rw[←hnode]
  generalize hq:Bd.mk ba.iJ ((ba.dH++[eB ba.pts])++bf.dH) bf.pts=q
  replace er:runS s0 ((scanR f1 n1 n1 0 0).1.map (sh 0)++{bare 5 with s:=n1,e:=n1+1}::(scanR f2 n2 n2 0 0).1.map (sh (n1+1)))=.ok ⟨nx,[q],[],sa.nm⟩:=by rw[er,←hq];rfl
  unfold ax
  rw[es,ew]
  unfold parseP
  rw[er]
  by_cases hk:bN q.node=true
  ·left
   show(if bN q.node=true then _ else _)=_
   rw[if_pos hk]
  ·right
   show(if bN q.node=true then _ else _:Nd×Int×Nat).2.1=4
   rw[if_neg hk]
 ·right
  unfold ax bD
  rw[if_neg hN]
  rfl
end Go.Proofs.YtgbkolonhddolaaGreatDoor.prs
namespace Go.Proofs.YtgbkolonhddolaaGreatDoor.prs
open nod tok
def Ah(k:Nat)(l:List Bd):Prop:=∀b∈l,b.dH.length≤k
theorem Ah.upd{k:Nat}{l:List Bd}{g:Bd→Bd}(h:Ah k l)(hg:∀b,(g b).dH.length≤b.dH.length+1):Ah (k+1) (upd g l):=by
 cases l with
 |nil=>intro b hb;cases hb
 |cons c r=>
  intro b hb
  rcases List.mem_cons.1 hb with rfl|hb
  ·have:=hg c;have:=h c (by simp);omega
  ·have:=h b (by simp[hb]);omega
theorem Ah.up{k:Nat}{l:List Bd}(h:Ah k l):Ah (k+1) l:=fun b hb=>Nat.le_succ_of_le (h b hb)
theorem out_ah{s s1:PS}{t:Tk}{k:Nat}(h:outS s t=.ok s1)(hk:Ah k s.bs):Ah (k+1) s1.bs:=by
 unfold outS at h
 split at h
 ·unfold dN at h
  split at h
  ·cases h
  split at h
  ·cases h
  split at h
  ·cases h
  ·cases h
   intro b hb
   rcases List.mem_cons.1 hb with rfl|hb
   ·simp
   ·exact hk.up b hb
 split at h
 ·unfold closeS at h
  split at h
  ·rename_i b c r e
   cases h
   rw[e]at hk
   intro x hx
   rcases List.mem_cons.1 hx with rfl|hx
   ·exact hk.up c (by simp)
   ·exact hk.up x (by simp[hx])
  ·cases h
 split at h
 ·cases h
  exact hk.upd fun b=>by simp[kW]
 split at h
 ·split at h
  ·cases h
  ·rename_i b r e
   split at h
   ·rename_i c hc
    cases h
    rw[e]at hk
    intro x hx
    rcases List.mem_cons.1 hx with rfl|hx
    ·unfold repB at hc
     split at hc
     ·cases hc
     ·split at hc
      ·cases hc
      ·cases hc;exact hk.up b (by simp)
    ·exact hk.up x (by simp[hx])
   ·cases h
 split at h
 ·unfold dP at h
  split at h
  ·cases h
  ·cases h
   exact hk.upd fun b=>by simp[eQ]
 split at h
 ·unfold aD at h
  split at h
  ·cases h
  ·cases h;exact hk.up
 ·cases h
  exact hk.upd fun b=>by simp[eQ]
theorem cls_ah{s s1:PS}{t:Tk}{k:Nat}(h:aD s t=.ok s1)(hk:Ah k s.bs):Ah (k+1) s1.bs:=by
 unfold aD at h
 split at h
 ·cases h
 ·cases h;exact hk.up
theorem J9{s s1:PS}{t:Tk}{k:Nat}(h:memS s t=.ok s1)(hk:Ah k s.bs):Ah (k+1) s1.bs:=by
 unfold memS at h
 split at h
 ·cases h
 split at h
 ·cases h;exact hk.up
 split at h
 ·exact cls_ah h hk
 ·cases h
theorem fur_ah{s s1:PS}{t:Tk}{k:Nat}(h:dZ s t=.ok s1)(hk:Ah k s.bs):Ah (k+1) s1.bs:=by
 unfold dZ at h
 split at h
 ·unfold endS at h
  split at h
  ·cases h
  ·cases h;exact hk.upd fun b=>by simp[eQ]
  ·cases h;exact hk.up
 split at h
 ·split at h
  ·cases h
  ·cases h;exact hk.up
 split at h
 ·split at h
  ·cases h
  ·split at h
   ·cases h;exact hk.up
   ·cases h
 ·exact J9 h hk
theorem rng_ah{s s1:PS}{t:Tk}{k:Nat}(h:gD s t=.ok s1)(hk:Ah k s.bs):Ah (k+1) s1.bs:=by
 unfold gD at h
 split at h
 ·cases h
 split at h
 ·cases h
 split at h
 ·cases h
 split at h
 ·cases h
 ·cases h;exact hk.up
theorem step_ah{s s1:PS}{t:Tk}{k:Nat}(h:stepS s t=.ok s1)(hk:Ah k s.bs):Ah (k+1) s1.bs:=by
 unfold stepS at h
 split at h
 ·exact out_ah h hk
 ·exact J9 h hk
 ·exact fur_ah h hk
 ·exact rng_ah h hk
theorem Jw:∀{ts:List Tk}{s sf:PS}{k:Nat},runS s ts=.ok sf→Ah k s.bs→Ah (k+ts.length) sf.bs
 |[],s,sf,k,h,hk=>by cases h;exact hk
 |t::ts,s,sf,k,h,hk=>by
  rw[runS]at h
  split at h
  ·rename_i s1 hs
   have:=Jw h (step_ah hs hk)
   rw[List.length_cons,show k+(ts.length+1)=k+1+ts.length by omega]
   exact this
  ·cases h
theorem Az{bN:Nd→Bool}{f:Nat→Int}{n:Nat}(hf:∀i,0≤f i∧f i≤255)(h:(ax bN f n).2.1=0):0<(dE (ax bN f n).1).length∧(dE (ax bN f n).1).length≤10001:=by
 obtain⟨hn,h0,hl,hfi,sf,b,hr,hb,hcs,ha,ht⟩:=fJ h
 have hL:=(fQ f n hf).2
 have es:bD f n=scanR f n n 0 0:=by unfold bD;rw[if_pos hn]
 rw[es]at hL
 have:=Jw (k:=0) hr (fun x hx=>by simp[s0]at hx;subst hx;simp[b0]) b (by rw[hb];simp)
 rw[ht,qd,List.length_append,List.length_singleton]
 omega
end Go.Proofs.YtgbkolonhddolaaGreatDoor.prs
namespace Go.Proofs.YtgbkolonhddolaaGreatDoor.prs
open Go.RowKit nod
open rng(R RV info_parts)
/--The cells from o on make the value v. -/
def AtL(l:List Value)(o:Nat)(v:Value):Prop:=∃c0 c1 c2 c3 c4 c5 c6 c7,v=.agg #[c0,c1,c2,c3,c4,c5,c6,c7]∧l[o]?=some c0∧l[o+1]?=some c1∧l[o+2]?=some c2∧l[o+3]?=some c3∧l[o+4]?=some c4∧l[o+5]?=some c5∧l[o+6]?=some c6∧l[o+7]?=some c7
/--Cells that read as trees in blocks below B. -/
def NR(B:Nat)(w:World)(cs:List Value)(l:List Nd):Prop:=cs.length=l.length*8∧(∀u∈cs,u.oneCell'=true)∧∀(i:Nat)t,l[i]?=some t→∃v,AtL cs (i*8) v∧NV B w t v
theorem NR.below{B:Nat}{w w':World}{cs:List Value}{l:List Nd}(h:NR B w cs l)(hb:Below B w w'):NR B w' cs l:=
 ⟨h.1,h.2.1,fun i t hi=>by obtain⟨v,h1,h2⟩:=h.2.2 i t hi;exact⟨v,h1,h2.keep hb⟩⟩
theorem AtL.left{a b:List Value}{o:Nat}{v:Value}(h:AtL a o v):AtL (a++b) o v:=by
 obtain⟨c0,c1,c2,c3,c4,c5,c6,c7,rfl,h0,h1,h2,h3,h4,h5,h6,h7⟩:=h
 have e:∀(i:Nat)x,a[i]?=some x→(a++b)[i]?=some x:=fun i x hx=>by rw[List.getElem?_append_left (List.getElem?_eq_some_iff.1 hx).1];exact hx
 exact⟨c0,c1,c2,c3,c4,c5,c6,c7,rfl,e _ _ h0,e _ _ h1,e _ _ h2,e _ _ h3,e _ _ h4,e _ _ h5,e _ _ h6,e _ _ h7⟩
theorem AtL.right{a b:List Value}{o n:Nat}{v:Value}(h:AtL b o v)(hn:a.length=n):AtL (a++b) (n+o) v:=by
 obtain⟨c0,c1,c2,c3,c4,c5,c6,c7,rfl,h0,h1,h2,h3,h4,h5,h6,h7⟩:=h
 have e:∀(i:Nat)x,b[i]?=some x→(a++b)[n+i]?=some x:=fun i x hx=>by rw[List.getElem?_append_right (by omega),hn,Nat.add_sub_cancel_left];exact hx
 exact⟨c0,c1,c2,c3,c4,c5,c6,c7,rfl,e _ _ h0,e _ _ h1,e _ _ h2,e _ _ h3,e _ _ h4,e _ _ h5,e _ _ h6,e _ _ h7⟩
theorem NR.append{B:Nat}{w:World}{a b:List Value}{l r:List Nd}(h:NR B w a l)(k:NR B w b r):NR B w (a++b) (l++r):=by
 refine⟨by rw[List.length_append,List.length_append,h.1,k.1];omega,fun u hu=>(List.mem_append.1 hu).elim (h.2.1 u) (k.2.1 u),fun i t hi=>?_⟩
 rcases Nat.lt_or_ge i l.length with hl|hl
 ·rw[List.getElem?_append_left hl]at hi
  obtain⟨v,h1,h2⟩:=h.2.2 i t hi
  exact⟨v,h1.left,h2⟩
 ·rw[List.getElem?_append_right hl]at hi
  obtain⟨v,h1,h2⟩:=k.2.2 _ t hi
  refine⟨v,?_,h2⟩
  have:=h1.right (a:=a) h.1
  rwa[←Nat.add_mul,Nat.add_sub_cancel' hl]at this
theorem nv_one{B:Nat}{w:World}{t:Nd}{c0 c1 c2 c3 c4 c5 c6 c7:Value}(h:NV B w t (.agg #[c0,c1,c2,c3,c4,c5,c6,c7])):∀u∈[c0,c1,c2,c3,c4,c5,c6,c7],u.oneCell'=true:=by
 obtain⟨k,m,a,b,g,n,s,ks,sa,sc,ao,cap,_,e,_⟩:=h.open
 injection e with e
 simp only[Array.mk.injEq,List.cons.injEq,and_true]at e
 obtain⟨rfl,rfl,rfl,rfl,rfl,rfl,rfl,rfl⟩:=e
 intro u hu
 simp only[List.mem_cons,List.mem_nil_iff,or_false]at hu
 rcases hu with rfl|rfl|rfl|rfl|rfl|rfl|rfl|rfl<;>rfl
theorem NR.one{B:Nat}{w:World}{t:Nd}{c0 c1 c2 c3 c4 c5 c6 c7:Value}(h:NV B w t (.agg #[c0,c1,c2,c3,c4,c5,c6,c7])):NR B w [c0,c1,c2,c3,c4,c5,c6,c7] [t]:=by
 refine⟨rfl,nv_one h,fun i t' hi=>?_⟩
 match i,hi with
 |0,hi=>simp at hi;subst hi;exact⟨_,⟨c0,c1,c2,c3,c4,c5,c6,c7,rfl,rfl,rfl,rfl,rfl,rfl,rfl,rfl,rfl⟩,h⟩
 |k+1,hi=>simp at hi
/--The slice's cells. -/
def gY(w:World)(ao:Option Addr)(cs:List Value):Prop:=cs=[]∨∃b off,ao=some ⟨b,off,none⟩∧∀j u,cs[j]?=some u→w.cell? ⟨b,off+j,none⟩=some u
theorem vJ{B:Nat}{w:World}{b:Nat}:∀{l:List Nd}{off:Nat},II B w b off l→∃cs,NR B w cs l∧∀j u,cs[j]?=some u→w.cell? ⟨b,off+j,none⟩=some u
 |[],off,_=>⟨[],⟨rfl,fun u hu=>(by cases hu),fun i t hi=>by simp at hi⟩,fun j u hu=>by simp at hu⟩
 |t::l,off,h=>by
  obtain⟨v,⟨c0,c1,c2,c3,c4,c5,c6,c7,rfl,e0,e1,e2,e3,e4,e5,e6,e7⟩,hv⟩:=h.2 0 t rfl
  obtain⟨cs,hcs,hat⟩:=vJ (l:=l) (off:=off+8) ⟨h.1,fun i t' hi=>by
   obtain⟨v,h1,h2⟩:=h.2 (i+1) t' (by simpa using hi)
   exact⟨v,by rw[show off+(i+1)*8=off+8+i*8 by omega]at h1;exact h1,h2⟩⟩
  refine⟨[c0,c1,c2,c3,c4,c5,c6,c7]++cs,(NR.one hv).append hcs,fun j u hu=>?_⟩
  rw[Nat.zero_mul,Nat.add_zero]at e0 e1 e2 e3 e4 e5 e6 e7
  match j,hu with
  |0,hu=>cases hu;exact e0
  |1,hu=>cases hu;exact e1
  |2,hu=>cases hu;exact e2
  |3,hu=>cases hu;exact e3
  |4,hu=>cases hu;exact e4
  |5,hu=>cases hu;exact e5
  |6,hu=>cases hu;exact e6
  |7,hu=>cases hu;exact e7
  |j+8,hu=>
   rw[show off+(j+8)=off+8+j by omega]
   exact hat j u (by rw[List.getElem?_append_right (by simp)]at hu;simpa using hu)
theorem Kn{B:Nat}{w:World}{ao:Option Addr}{l:List Nd}(h:KV B w ao l):∃cs,NR B w cs l∧gY w ao cs:=by
 rcases h with rfl|⟨b,off,e,h⟩
 ·exact⟨[],⟨rfl,fun u hu=>(by cases hu),fun i t hi=>by simp at hi⟩,.inl rfl⟩
 ·obtain⟨cs,h1,h2⟩:=vJ h
  exact⟨cs,h1,.inr ⟨b,off,e,h2⟩⟩
theorem gY.below{w w':World}{ao:Option Addr}{cs:List Value}(h:gY w ao cs)(hb:Below w.heap.size w w'):gY w' ao cs:=by
 rcases h with h|⟨b,off,e,h⟩
 ·exact .inl h
 ·exact .inr ⟨b,off,e,fun j u hu=>(hb.cell (p:=⟨b,off+j,none⟩) (World.block_lt_of_cell? w _ (h j u hu))).trans (h j u hu)⟩
/--A row of nodes of the call's own, of block B or behind it. -/
def gz(B:Nat)(w:World)(v:Value)(l:List Nd):Prop:=∃g cap cs,v=.slice (some ⟨g,0,none⟩) l.length cap∧B≤g∧g<w.heap.size∧l.length≤cap∧cap≤maxLen∧NR B w cs l∧
 (∀j u,cs[j]?=some u→w.cell? ⟨g,j,none⟩=some u)∧∀j,j<cap*8→(w.cell? ⟨g,j,none⟩).isSome=true∧w.frozen? ⟨g,j,none⟩=false
theorem gz.below{B:Nat}{w w':World}{v:Value}{l:List Nd}(h:gz B w v l)(hb:Below w.heap.size w w')(hB:B≤w.heap.size):gz B w' v l:=by
 obtain⟨g,cap,cs,rfl,h1,h2,h3,h4,h5,h6,h7⟩:=h
 exact⟨g,cap,cs,rfl,h1,Nat.lt_of_lt_of_le h2 hb.size,h3,h4,h5.below (ae hb hB),fun j u hu=>(hb.cell (p:=⟨g,j,none⟩) h2).trans (h6 j u hu),fun j hj=>by rw[hb.cell (p:=⟨g,j,none⟩) h2,World.frozen?_of_block (a:=⟨g,j,none⟩) (hb.block g h2)];exact h7 j hj⟩
theorem gz.kv{B:Nat}{w:World}{v:Value}{l:List Nd}(h:gz B w v l)(hB:B≤w.heap.size):∃ao cap,v=.slice ao l.length cap∧(l.length≤cap∧cap≤maxLen∧(ao=none→cap=0))∧KV w.heap.size w ao l:=by
 obtain⟨g,cap,cs,rfl,h1,h2,h3,h4,h5,h6,h7⟩:=h
 refine⟨_,cap,rfl,⟨h3,h4,fun e=>by cases e⟩,.inr ⟨g,0,rfl,h2,fun i t hi=>?_⟩⟩
 obtain⟨v,⟨c0,c1,c2,c3,c4,c5,c6,c7,rfl,e0,e1,e2,e3,e4,e5,e6,e7⟩,hv⟩:=h5.2.2 i t hi
 rw[Nat.zero_add]
 exact⟨_,⟨c0,c1,c2,c3,c4,c5,c6,c7,rfl,h6 _ _ e0,h6 _ _ e1,h6 _ _ e2,h6 _ _ e3,h6 _ _ e4,h6 _ _ e5,h6 _ _ e6,h6 _ _ e7⟩,hv.wide hB⟩
/--Only block p, and new ones, have changed. -/
theorem gz.grown{B p:Nat}{w w':World}{v:Value}{l:List Nd}(h:gz B w v l)(k:w.grownBy w' (some p))(hv:v.ownBlock≠some p)(hB:B≤p)(hw:B≤w.heap.size):gz B w' v l:=by
 obtain⟨g,cap,cs,rfl,h1,h2,h3,h4,h5,h6,h7⟩:=h
 have hg:w'.heap[g]?=w.heap[g]?:=k.block g h2 fun e=>hv e
 exact⟨g,cap,cs,rfl,h1,Nat.lt_of_lt_of_le h2 k.size,h3,h4,h5.below ⟨k.os,k.tape,k.output,k.size,fun i hi=>k.block i (by omega) (fun e=>by cases e;omega)⟩,fun j u hu=>(World.cell?_of_block (a:=⟨g,j,none⟩) hg).trans (h6 j u hu),fun j hj=>by rw[World.cell?_of_block (a:=⟨g,j,none⟩) hg,World.frozen?_of_block (a:=⟨g,j,none⟩) hg];exact h7 j hj⟩
theorem gz.lt{B:Nat}{w:World}{v:Value}{l:List Nd}(h:gz B w v l):v.ownBlock≠some w.heap.size:=by
 obtain⟨g,cap,cs,rfl,h1,h2,_⟩:=h
 intro e
 have:g=w.heap.size:=Option.some.inj e
 omega
theorem gz.is{B:Nat}{w:World}{v:Value}{l:List Nd}(h:gz B w v l):∃g c,v=.slice (some ⟨g,0,none⟩) l.length c:=by
 obtain⟨g,cap,cs,rfl,_⟩:=h
 exact⟨g,cap,rfl⟩
theorem lC(g:Nat):∀(vs:List Value)(o:Nat)(w:World)(i:Nat),i≠g→(w.setCells g o vs).heap[i]?=w.heap[i]?
 |[],_,_,_,_=>rfl
 |x::vs,o,w,i,h=>(lC g vs (o+1) _ i h).trans (Below.heap_setCell _ _ _ _ h)
theorem grown_of{w w':World}(x:Option Nat)(d:Below w.heap.size w w'):w.grownBy w' x:=⟨d.os,d.tape,d.output,d.size,fun i hi _=>d.block i hi⟩
/--What a closure tells: trees that lie somewhere. -/
def kY(B:Nat)(w:World)(ao:Option Addr)(cs:List Value)(l:List Nd):Prop:=NR B w cs l∧gY w ao cs∧(ao=none→l.length=0)
theorem kY.below{B:Nat}{w w':World}{ao:Option Addr}{cs:List Value}{l:List Nd}(h:kY B w ao cs l)(d:Below w.heap.size w w')(hB:B≤w.heap.size):kY B w' ao cs l:=⟨h.1.below (ae d hB),h.2.1.below d,h.2.2⟩
theorem Kz:(Tryz.prog.info? 26).map (fun i=>(i.zero,i.size,i.bytes))=some (some (.agg #[.int .i64 0,.int .i64 0,.int .i64 0,.int .i64 0,.bool false,.string ⟨#[]⟩,.slice none 0 0,.slice none 0 0]),8,104):=by kernel_rfl
theorem src_n{w:World}{ao:Option Addr}{m c:Nat}{cs:List Value}(hs:gY w ao cs)(hl:cs.length=m*8)(h1:∀u∈cs,u.oneCell'=true)(hn:ao=none→m=0):Src Tryz.prog 8 24 (.slice ao m c) m cs w:=by
 cases ao with
 |none=>
  obtain rfl:=hn rfl
  obtain rfl:cs=[]:=List.length_eq_zero_iff.1 (by omega)
  exact Src.ofNil w Tryz.underlying24 c
 |some ad=>
  refine Src.ofSlice w Tryz.underlying24 ad m c _ (by rw[hl];try omega) (fun j u hj=>?_) h1
  rcases hs with rfl|⟨b,off,e,hc⟩
  ·simp at hj
  ·obtain rfl:=Option.some.inj e
   rw[Addr.add_lit]
   exact hc j u hj
theorem app_nr{B:Nat}{w:World}{v:Value}{l r:List Nd}{cs:List Value}{ao:Option Addr}{c:Nat}(ty:TypeId)(hv:gz B w v l)(hr:NR B w cs r)(hs:gY w ao cs)(hn:ao=none→r.length=0)(hB:B≤w.heap.size)(hnm:l.length+r.length≤100000):
  ∃v' w',(Builtin.append_ #[24,24] ty #[v,.slice ao r.length c]).run Tryz.prog w=.ok v' w'∧gz B w' v' (l++r)∧Below B w w'∧w.grownBy w' v.ownBlock∧(v'.ownBlock=v.ownBlock∨v'.ownBlock=some w.heap.size):=by
 obtain⟨g,cap,ds,rfl,h1,h2,h3,h4,h5,h6,h7⟩:=hv
 obtain⟨i,hi,hz,hsz,hby⟩:=info_parts Kz
 have S:=src_n (c:=c) hs hr.1 hr.2.1 hn
 rcases Nat.lt_or_ge cap (l.length+r.length)with hg|hg
 ·have ho:(Builtin.firstCells i.size l.length (.slice (some ⟨g,0,none⟩) l.length cap)).run Tryz.prog w.drew=.ok ds.toArray w.drew:=run_firstCells_some w.drew _ l.length _ _ _ _ (by rw[h5.1,hsz]) fun j u hj=>by
   rw[Addr.add_lit,Nat.zero_add]
   exact h6 j u hj
  have hr':=run_append_grow_src (P:=Tryz.prog) w 24 24 ty 26 i _ Tryz.underlying24 hi hz (some ⟨g,0,none⟩) l.length cap ds ho (.slice ao r.length c) r.length cs (by rw[hsz];exact S) hg (by omega) (growslice_fits hg (by rw[hby];omega))
  have hge:=grownCap_ge w (l.length+r.length) cap 26
  refine⟨_,_,hr',⟨w.heap.size,_,ds++cs,by rw[List.length_append],hB,by simp,by rw[List.length_append];exact hge,grownCap_le_maxLen w _ _ _ (by unfold maxLen;omega),?_,fun j u hj=>?_,fun j hj=>⟨?_,?_⟩⟩,?_⟩
  ·exact(h5.append hr).below ((Below.refl _ w).drew.alloc hB _)
  ·rw[cell_of_row _ w.heap.size j _ _ _ (World.alloc_heap_new w.drew _)]
   rw[Array.getElem?_append_left (by have:=(List.getElem?_eq_some_iff.1 hj).1;simpa using this),List.getElem?_toArray]
   exact hj
  ·rw[cell_of_row _ w.heap.size j _ _ _ (World.alloc_heap_new w.drew _)]
   rw[Array.getElem?_eq_getElem (by simp[h5.1,hr.1,size_zeroCells,Value.cells];omega)]
   rfl
  ·exact World.frozen?_alloc_new w.drew _ _ _
  ·exact⟨((Below.refl _ w).drew.alloc hB _),grown_of _ ((Below.refl _ w).drew.alloc (Nat.le_refl _) _),.inr rfl⟩
 ·have hr':=run_append_room_src (P:=Tryz.prog) w 24 24 ty 26 i Tryz.underlying24 hi g 0 l.length cap (.slice ao r.length c) r.length cs (by rw[hsz];exact S) hg
   (fun j hj=>by rw[hsz,Nat.zero_add];exact(h7 (l.length*8+j) (by rw[hr.1]at hj;omega)).1) (fun j hj=>by rw[hsz,Nat.zero_add];exact(h7 (l.length*8+j) (by rw[hr.1]at hj;omega)).2)
  rw[hsz,Nat.zero_add]at hr'
  have hb:Below B w (w.setCells g (l.length*8) cs):=iR h1 _ _ (Below.refl _ _)
  refine⟨_,_,hr',⟨g,cap,ds++cs,by rw[List.length_append],h1,Nat.lt_of_lt_of_le h2 (World.keptBut_setCells g (may:=fun _=>True) _ _ w (fun _ _=>trivial)).size,by rw[List.length_append];exact hg,h4,(h5.append hr).below hb,fun j u hj=>?_,fun j hj=>⟨?_,?_⟩⟩,hb,⟨hb.os,hb.tape,hb.output,hb.size,fun i hi hx=>lC g _ _ _ _ fun e=>hx (by rw[e];rfl)⟩,.inl rfl⟩
  ·by_cases hjn:j<l.length*8
   ·rw[World.cell?_setCells_out g _ _ w _ (fun _ _=>.inl hjn)]
    rw[List.getElem?_append_left (by rw[h5.1];exact hjn)]at hj
    exact h6 j u hj
   ·rw[List.getElem?_append_right (by rw[h5.1];omega),h5.1]at hj
    have:=World.cell?_setCells_in g cs (l.length*8) w (fun k hk=>(h7 (l.length*8+k) (by rw[hr.1]at hk;omega)).1) (j-l.length*8) (List.getElem?_eq_some_iff.1 hj).1
    rw[show l.length*8+(j-l.length*8)=j by omega]at this
    rw[this,←List.getElem?_eq_getElem]
    exact hj
  ·exact World.isSome_setCells g _ _ w _ (h7 j hj).1
  ·rw[World.frozen?_setCells]
   exact(h7 j hj).2
/--The first append, to a row of none. -/
theorem Il{B:Nat}{w:World}{r:List Nd}{cs:List Value}{ao:Option Addr}{c:Nat}(ty:TypeId)(g0:Nat)(h:kY B w ao cs r)(hB:B≤w.heap.size)(hnm:r.length≤100000)(h0:0<r.length):
  ∃v' w',(Builtin.append_ #[24,24] ty #[.slice (some ⟨g0,0,none⟩) 0 0,.slice ao r.length c]).run Tryz.prog w=.ok v' w'∧gz B w' v' r∧v'.ownBlock=some w.heap.size∧Below w.heap.size w w':=by
 obtain⟨hr,hs,hn⟩:=h
 obtain⟨i,hi,hz,hsz,hby⟩:=info_parts Kz
 have S:=src_n (c:=c) hs hr.1 hr.2.1 hn
 have hr':=run_append_grow_src (P:=Tryz.prog) w 24 24 ty 26 i _ Tryz.underlying24 hi hz (some ⟨g0,0,none⟩) 0 0 [] (run_firstCells_some w.drew _ 0 _ _ _ _ (by simp) fun j u hj=>by simp at hj) (.slice ao r.length c) r.length cs (by rw[hsz];exact S) (by omega) (by omega) (growslice_fits (by omega) (by rw[hby];omega))
 have hge:=grownCap_ge w (0+r.length) 0 26
 have hb:Below w.heap.size w (w.drew.alloc (.cells (([]++cs).toArray++Builtin.zeroCells (Value.agg #[.int .i64 0,.int .i64 0,.int .i64 0,.int .i64 0,.bool false,.string ⟨#[]⟩,.slice none 0 0,.slice none 0 0]).cells (grownCap w (0+r.length) 0 26-(0+r.length))) 26)):=(Below.refl _ w).drew.alloc (Nat.le_refl _) _
 refine⟨_,_,hr',⟨w.heap.size,_,cs,by rw[Nat.zero_add],hB,by simp,by rw[Nat.zero_add]at hge;exact hge,grownCap_le_maxLen w _ _ _ (by unfold maxLen;omega),hr.below (ae hb hB),fun j u hj=>?_,fun j hj=>⟨?_,?_⟩⟩,rfl,hb⟩
 ·rw[cell_of_row _ w.heap.size j _ _ _ (World.alloc_heap_new w.drew _)]
  rw[Array.getElem?_append_left (by have:=(List.getElem?_eq_some_iff.1 hj).1;simpa using this),List.getElem?_toArray]
  exact hj
 ·rw[cell_of_row _ w.heap.size j _ _ _ (World.alloc_heap_new w.drew _)]
  rw[Array.getElem?_eq_getElem (by rw[Nat.zero_add]at hge;simp[hr.1,size_zeroCells,Value.cells];omega)]
  rfl
 ·exact World.frozen?_alloc_new w.drew _ _ _
theorem DY{o:Oper}{a:Act}{Q:Exit→Act→World→Prop}{K:Act→World→Prop}{w w':World}{v sv v':Value}(hgd:o.guard=none)(s x:Operand)(ho:o.op=.call {callee:=.builtin .append,args:=#[s,x],argTypes:=#[24,24]})(hs:a.eval s=v)(hx:a.eval x=sv)
  (hr:(Builtin.append_ #[24,24] o.type #[v,sv]).run Tryz.prog w=.ok v' w')(h:K (a.put o.dst v') w'):Oper.wp Tryz.prog o a w K Q:=by
 unfold Oper.wp execOp
 simp only[ho,resolve,invoke,builtin,Sem.run_bind,Sem.run_pure,Result.andThen_ok,List.map_toArray,List.map_cons,List.map_nil,hs,hx,hr]
 exact h
end Go.Proofs.YtgbkolonhddolaaGreatDoor.prs
namespace Go.Proofs.YtgbkolonhddolaaGreatDoor.prs
open Go.RowKit nod
theorem AA{B:Nat}{w:World}{t:Nd}{k0 k1 k2 k3 k4 k5 k6 k7:Value}(hB:B≤w.heap.size)(hv:NV B w t (.agg #[k0,k1,k2,k3,k4,k5,k6,k7])):
  Calls Tryz.prog 9 #[.agg #[k0,k1,k2,k3,k4,k5,k6,k7]] w fun e w'=>∃ao c cs,e=.returned (.slice ao (dE t).length c)∧NR B w' cs (dE t)∧gY w' ao cs∧(ao=none→(dE t).length=0)∧Below w.heap.size w w':=by
 obtain⟨k,m,a,b,g,n,st,ks,sa,sc,ao,cap,rfl,e,_,_,_,hk1,hk2,hk3,yu⟩:=hv.open
 injection e with e
 simp only[Array.mk.injEq,List.cons.injEq,and_true]at e
 obtain⟨rfl,rfl,rfl,rfl,rfl,rfl,rfl,rfl⟩:=e
 obtain⟨nk,hnk⟩:∃nk,ks.length=nk:=⟨_,rfl⟩
 have HNK:Hid (ks.length=nk):=hnk
 rw[hnk]at hk1 hv⊢
 generalize st.length=sl at*
 have HV:=hd17 hv
 have uM:Hid (KV B w ao ks):=yu
 clear hv yu hnk
 have B1:Below w.heap.size w (w.alloc (.cells #[.int .i64 k,.int .i64 m,.int .i64 a,.int .i64 b,.bool g,.string n,.slice sa sl sc,.slice ao nk cap] 26)):=(Below.refl _ w).alloc (Nat.le_refl _) _
 by_cases h7:k=7
 ·subst h7
  have e7:dE (.mk 7 m a b g n st ks)=ks:=by exact if_pos rfl
  rw[e7]
  obtain⟨cs,hcs,hat⟩:=Kn uM.out
  have HR:Hid (∃x c cs,Ending.returned (.slice ao nk cap)=.returned (.slice x ks.length c)∧NR B (w.alloc (.cells #[.int .i64 7,.int .i64 m,.int .i64 a,.int .i64 b,.bool g,.string n,.slice sa sl sc,.slice ao nk cap] 26)) cs ks∧gY (w.alloc (.cells #[.int .i64 7,.int .i64 m,.int .i64 a,.int .i64 b,.bool g,.string n,.slice sa sl sc,.slice ao nk cap] 26)) x cs∧(x=none→ks.length=0)∧Below w.heap.size w (w.alloc (.cells #[.int .i64 7,.int .i64 m,.int .i64 a,.int .i64 b,.bool g,.string n,.slice sa sl sc,.slice ao nk cap] 26))):=⟨ao,cap,cs,by rw[HNK.out],hcs.below (ae B1 hB),hat.below B1,fun e=>by have:=hk3 e;have:=HNK.out;omega,B1⟩
  clear hcs hat B1 hk1 hk2 hk3 uM HV e7 hB
  go_enter Tryz.func9,Tryz.ntmps9
  go_wp2
  go_ret
  exact HR.out
 ·have e7:dE (.mk k m a b g n st ks)=[.mk k m a b g n st ks]:=by exact if_neg h7
  rw[e7]
  have z7:(k==7)=false:=by simp[h7]
  have B2:Below w.heap.size w ((w.alloc (.cells #[.int .i64 k,.int .i64 m,.int .i64 a,.int .i64 b,.bool g,.string n,.slice sa sl sc,.slice ao nk cap] 26)).alloc (.cells #[.int .i64 k,.int .i64 m,.int .i64 a,.int .i64 b,.bool g,.string n,.slice sa sl sc,.slice ao nk cap] 26)):=bP w _ _
  have K2:Bk ((w.alloc (.cells #[.int .i64 k,.int .i64 m,.int .i64 a,.int .i64 b,.bool g,.string n,.slice sa sl sc,.slice ao nk cap] 26)).alloc (.cells #[.int .i64 k,.int .i64 m,.int .i64 a,.int .i64 b,.bool g,.string n,.slice sa sl sc,.slice ao nk cap] 26)) (w.heap.size+1) #[.int .i64 k,.int .i64 m,.int .i64 a,.int .i64 b,.bool g,.string n,.slice sa sl sc,.slice ao nk cap] 26:=bk2
  have HR:Hid (∃x c cs,Ending.returned (.slice (some ⟨w.heap.size+1,0,none⟩) 1 1)=.returned (.slice x [Nd.mk k m a b g n st ks].length c)∧NR B ((w.alloc (.cells #[.int .i64 k,.int .i64 m,.int .i64 a,.int .i64 b,.bool g,.string n,.slice sa sl sc,.slice ao nk cap] 26)).alloc (.cells #[.int .i64 k,.int .i64 m,.int .i64 a,.int .i64 b,.bool g,.string n,.slice sa sl sc,.slice ao nk cap] 26)) cs [.mk k m a b g n st ks]∧gY ((w.alloc (.cells #[.int .i64 k,.int .i64 m,.int .i64 a,.int .i64 b,.bool g,.string n,.slice sa sl sc,.slice ao nk cap] 26)).alloc (.cells #[.int .i64 k,.int .i64 m,.int .i64 a,.int .i64 b,.bool g,.string n,.slice sa sl sc,.slice ao nk cap] 26)) x cs∧(x=none→[Nd.mk k m a b g n st ks].length=0)∧Below w.heap.size w ((w.alloc (.cells #[.int .i64 k,.int .i64 m,.int .i64 a,.int .i64 b,.bool g,.string n,.slice sa sl sc,.slice ao nk cap] 26)).alloc (.cells #[.int .i64 k,.int .i64 m,.int .i64 a,.int .i64 b,.bool g,.string n,.slice sa sl sc,.slice ao nk cap] 26))):=
   ⟨_,1,_,rfl,(NR.one HV.out).below (ae B2 hB),.inr ⟨_,0,rfl,fun j u hj=>by rw[Nat.zero_add];exact K2.cell j (by simpa using hj)⟩,fun e=>(by cases e),B2⟩
  clear B1 B2 K2 hk1 hk2 hk3 uM HV e7 hB HNK
  go_enter Tryz.func9,Tryz.ntmps9
  go_wp2
  go_ret
  exact HR.out
theorem gz.node{B:Nat}{w:World}{g n c:Nat}{l:List Nd}(h:gz B w (.slice (some ⟨g,0,none⟩) n c) l)(hB:B≤w.heap.size):NV w.heap.size w (nd 7 0 0 0 false [] l) (.agg #[.int .i64 7,.int .i64 0,.int .i64 0,.int .i64 0,.bool false,.string ⟨#[]⟩,.slice none 0 0,.slice (some ⟨g,0,none⟩) n c]):=by
 obtain⟨ao,cap,e,hc,hk⟩:=h.kv hB
 injection e with e1 e2 e3
 subst e1 e2 e3
 exact NV.shut (s:=[]) ⟨(by unfold dQ;decide),(by unfold dQ;decide),(by unfold dQ;decide),(by unfold dQ;decide)⟩ (by decide) ⟨.inl rfl,fun x e=>(by cases e),by simp,by simp,fun _=>rfl⟩ hc hk
end Go.Proofs.YtgbkolonhddolaaGreatDoor.prs
namespace Go.Proofs.YtgbkolonhddolaaGreatDoor.prs
open Go.RowKit nod tok
open tre(grpN)
def ByR0(w:World)(B:Nat)(v:Value)(n:Nat)(f:Nat→Int):Prop:=(v=.slice none 0 0∧n=0)∨IV w B v n f
theorem own_br{w:World}{B n:Nat}{v:Value}{f:Nat→Int}(h:w.ownsRow B 5 1 v n ((utf.IB f n).map (Value.int .u8))):ByR0 w B v n f:=by
 rcases h.2 with h0|⟨g,cap,cur,rfl,hg,hh,hc,hm,hs,ht⟩
 ·exact .inl h0
 ·refine .inr ⟨g,cap,rfl,hg,(Array.getElem?_eq_some_iff.1 hh).1,hc,hm,fun j hj=>(h.cellAt j (by omega)).trans (utf.lst_get? f n j hj),fun j hj=>⟨?_,?_⟩⟩
  ·unfold World.cell?
   simp only[hh]
   simp[Array.getElem?_eq_getElem (show j<cur.size by omega)]
  ·unfold World.frozen?
   simp only[hh]
   simp
theorem Lm{w:World}{ao:Option Addr}{n cap:Nat}{f:Nat→Int}(hB:utf.oM w ao n f)(hnil:ao=none→n=0)(hn:n≤100000):
  Calls Tryz.prog 8 #[.slice ao n cap] w fun e w'=>∃v,e=.returned v∧ByR0 w' w.heap.size v n f∧Below w.heap.size w w':=by
 cases ao with
 |none=>
  obtain rfl:=hnil rfl
  exact(utf.vY cap w).mono (by rintro e w'⟨rfl,rfl⟩;exact⟨_,rfl,.inl ⟨rfl,rfl⟩,Below.refl _ _⟩)
 |some ad=>exact(utf.tC ad n cap f w hB (by omega)).mono (by rintro e w'⟨v,rfl,h,hb⟩;exact⟨v,rfl,own_br h,hb⟩)
theorem app_br0{w:World}{B:Nat}{v:Value}{n m c:Nat}{f h:Nat→Int}{ao:Option Addr}(ty:TypeId)(hv:ByR0 w B v n f)(hs:utf.oM w ao m h)(hn:ao=none→m=0)(hB:B≤w.heap.size)(hnm:n+m≤1000000)(hm:0<m):
  ∃v' w',(Builtin.append_ #[22,22] ty #[v,.slice ao m c]).run Tryz.prog w=.ok v' w'∧IV w' B v' (n+m) (kV f n h)∧Below B w w':=by
 rcases hv with⟨rfl,rfl⟩|hv
 ·obtain⟨i,hi,hz,hsz,hby⟩:=rng.info_parts info8
  have S:=src_b (c:=c) hs hn
  have hl:=dO h m
  have hr:=run_append_grow_src (P:=Tryz.prog) w 22 22 ty 5 i (.int .u8 0) Tryz.underlying22 hi hz none 0 0 [] (run_firstCells_none ..) (.slice ao m c) m (qI h m) (by rw[hsz];exact S) (by omega) (by omega) (growslice_fits (by omega) (by rw[hby];omega))
  have hge:=grownCap_ge w (0+m) 0 5
  refine⟨_,_,hr,⟨w.heap.size,_,rfl,hB,by simp,hge,grownCap_le_maxLen w _ _ _ (by unfold maxLen;omega),fun j hj=>?_,fun j hj=>⟨?_,?_⟩⟩,?_⟩
  ·rw[cell_of_row _ w.heap.size j _ _ _ (World.alloc_heap_new w.drew _)]
   rw[Array.getElem?_append_left (by simp[dO];omega),List.getElem?_toArray]
   unfold kV
   rw[if_neg (by omega),List.nil_append,lF (by omega)]
   simp
  ·rw[cell_of_row _ w.heap.size j _ _ _ (World.alloc_heap_new w.drew _)]
   rw[Array.getElem?_eq_getElem (by rw[Nat.zero_add]at hj hge;simp[dO,size_zeroCells,Value.cells];omega)]
   rfl
  ·exact World.frozen?_alloc_new w.drew _ _ _
  ·exact((Below.refl _ w).drew.alloc hB _)
 ·exact xQ ty hv hs hn hB hnm
/--The two patterns' bytes, with a bar between them. -/
def jnF(f1:Nat→Int)(n1:Nat)(f2:Nat→Int):Nat→Int:=kV (kV f1 n1 fun _=>124) (n1+1) f2
theorem zD{f1 f2:Nat→Int}{n1 n2:Nat}(h1:(ax bU f1 n1).2.1=0)(h2:(ax bU f2 n2).2.1=0)(hz:grpN (ax bU f2 n2).1=0):
  ax bU (jnF f1 n1 f2) (n1+1+n2)=(nd 7 0 0 0 false [] (dE (ax bU f1 n1).1++dE (ax bU f2 n2).1),0,0)∨(ax bU (jnF f1 n1 f2) (n1+1+n2)).2.1=4:=by
 refine Cs (fun i hi=>?_) (fun i hi=>?_) ?_ rD rE rD rE h1 h2 hz
 ·unfold jnF kV;rw[if_pos (by omega),if_pos (by omega),Nat.zero_add]
 ·unfold jnF kV;rw[if_neg (by omega),Nat.add_sub_cancel_left]
 ·unfold jnF kV;rw[if_pos (by omega),if_neg (by omega)]
end Go.Proofs.YtgbkolonhddolaaGreatDoor.prs
