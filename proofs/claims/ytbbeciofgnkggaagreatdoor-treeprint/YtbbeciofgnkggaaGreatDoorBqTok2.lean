import Derived.Test.YtbbeciofgnkggaaGreatDoorBqTok1
import Derived.Test.YtbbeciofgnkggaaGreatDoorBqUtf2
import Derived.Deep.RegionWith
import Derived.Laws.Rows
import Derived.Laws.BytesArg
import Derived.Deep.LoopGhost
set_option linter.unusedSimpArgs false
set_option linter.unusedVariables false
set_option maxRecDepth 100000
set_option maxHeartbeats 8000000
namespace Go.Proofs.YtbbeciofgnkggaaGreatDoor.tok
open Go.RowKit
open lin(BA Turns)
theorem below_eqs{W w':World}(h:Below W.heap.size W w'):(∀p:Addr,p.block<W.heap.size→w'.cell? p=W.cell? p)∧(∀p:Addr,p.block<W.heap.size→w'.frozen? p=W.frozen? p)∧W.heap.size≤w'.heap.size:=
 ⟨fun p hp=>h.cell hp,fun p hp=>h.frozen hp,h.size⟩
theorem run_cut(f:Nat→Int)(n N:Nat)(hN:N≤n):∀k r e l h,(utf.run f n k r e l h).2.1≤N→utf.run f N k r e l h=utf.run f n k r e l h:=by
 intro k
 induction k with
 |zero=>intro r e l h _;simp[utf.run]
 |succ k ih=>
  intro r e l h hk
  by_cases c:e<n∧l≤f e∧f e≤h
  ·rw[utf.run_go f n (k+1) r e l h (by omega) c]at hk⊢
   have:=utf.run_end f n (k+1-1) (r*64+f e%64) (e+1) 128 191
   rw[utf.run_go f N (k+1) r e l h (by omega) ⟨by omega,c.2⟩]
   exact ih _ _ _ _ hk
  ·rw[utf.run_stop f n (k+1) r e l h (by omega) c,utf.run_stop f N (k+1) r e l h (by omega) (fun q=>c ⟨by omega,q.2⟩)]
theorem it_cut(f:Nat→Int)(n N a:Nat)(hN:N≤n)(h:(utf.it f n a).2.1≤N):utf.it f N a=utf.it f n a:=by
 unfold utf.it at h⊢
 split
 ·rfl
 ·rename_i hs
  rw[if_neg hs]at h
  exact run_cut f n N hN _ _ _ _ _ h
/--The bytes of an item, by themselves, are well-formed if it is. -/
theorem sub_valid(f:Nat→Int)(n a:Nat)(ha:a<n):utf.valid (fun i=>f (a+i)) ((utf.it f n a).2.1-a) 0=(utf.it f n a).2.2:=by
 have e:=utf.it_end f n a ha
 obtain⟨m,hm⟩:∃m,(utf.it f n a).2.1=a+m:=⟨(utf.it f n a).2.1-a,by omega⟩
 have hc:=it_cut f n (a+m) a (by omega) (by omega)
 have hs:=utf.it_shift f m a 0
 rw[Nat.add_zero,hc,hm]at hs
 rw[hm,show a+m-a=m by omega,utf.valid_step _ m 0 (by omega),hs]
 simp only[]
 rw[show a+m-a=m by omega,utf.valid_end _ m m (Nat.le_refl _),Bool.and_true]
theorem point_any(sb:Nat)(ao:Option Addr)(n cap:Nat)(f:Nat→Int)(a st k:Nat)(tv:Value)(w:World)(h:Sc w sb ao n cap f a st k tv):
  Calls Tryz.prog 127 #[.pointer (some ⟨sb,0,none⟩)] w (End w sb ao n cap f st k tv (iv .i64) (point f n a)):=by
 have hlt:=h.lt
 obtain⟨c0,c1,c2,c3,c4,z0,z1,z2,z3,z4⟩:=h.cells
 have hn:=h.nn
 have ha:=h.aa
 obtain⟨R,hR⟩:∃R,point f n a=R:=⟨_,rfl⟩
 rw[hR]
 by_cases hl:a<n
 ·have HR:Hid (R=if(utf.it f n a).2.2=true then .ok (utf.it f n a).1 (utf.it f n a).2.1 else .no 131 a):=by unfold Hid;rw[←hR];unfold point;rw[if_pos hl]
  clear hR
  obtain⟨b,off,rfl,hb,hcc⟩:=h.byt
  have NX:Hid (∀W,Below w.heap.size w W→Calls Tryz.prog 132 #[.slice (some ⟨b,off,none⟩) n cap,.int .i64 a] W fun e w'=>
   e=.returned (.tuple #[.agg #[.int .i64 (utf.it f n a).1,.int .i64 a,.int .i64 (utf.it f n a).2.1],.bool true])∧Below W.heap.size W w'∧w'.cell? ⟨sb,0,none⟩=some (.slice (some ⟨b,off,none⟩) n cap)∧w'.cell? ⟨sb,1,none⟩=some (.int .i64 a)):=fun W hW=>(utf.next_yes b off n cap f a W (fun i hi=>(hW.cell (World.block_lt_of_cell? w _ (hcc i hi))).trans (hcc i hi)) hl (by omega) h.ff).mono fun e w' H=>
    ⟨H.1,H.2,(hW.trans (H.2.mono hW.size)).cell (p:=⟨sb,0,none⟩) hlt|>.trans c0,(hW.trans (H.2.mono hW.size)).cell (p:=⟨sb,1,none⟩) hlt|>.trans c1⟩
  have VA:Hid (∀W',Sc W' sb (some ⟨b,off,none⟩) n cap f a st k tv→Calls Tryz.prog 134 #[.slice (some ⟨b,off+a,none⟩) ((utf.it f n a).2.1-a) (cap-a)] W' fun e w'=>e=.returned (.bool (utf.it f n a).2.2)∧Below W'.heap.size W' w'):=fun W' hW=>by
   obtain⟨b',off',e,hne,hc⟩:=hW.byt
   cases e
   have hie:=utf.it_end f n a hl
   have:=utf.valid_any (some ⟨b,off+a,none⟩) ((utf.it f n a).2.1-a) (cap-a) (fun i=>f (a+i)) W' (.inr ⟨b,off+a,rfl,fun i hi=>by rw[Nat.add_assoc];exact hc (a+i) (by omega)⟩) (by omega) (fun i=>h.ff _)
   rw[sub_valid f n a hl]at this
   exact this
  have HC:Hid (∀i,i<n→w.cell? ⟨b,off+i,none⟩=some (.int .u8 (f i))):=hcc
  have hie:=utf.it_end f n a hl
  have hcc2:=h.cc
  clear hcc
  generalize(utf.it f n a).1=r at*
  generalize(utf.it f n a).2.1=E at*
  generalize(utf.it f n a).2.2=K at*
  have l1:(0:Int)≤(a:Int):=by omega
  have l2:(a:Int)≤(E:Int):=by omega
  have l3:(E:Int)≤(cap:Int):=by omega
  have l4:(a:Int)<(cap:Int):=by omega
  have l5:¬cap=a:=by omega
  have l6:¬cap-a=0:=by omega
  have l7:(E:Int)≤(n:Int):=by omega
  have l8:(0:Int)≤(E:Int):=by omega
  have hne:¬sb=w.heap.size:=by omega
  have hne':¬w.heap.size=sb:=by omega
  have hnw:=World.new_ne w _ c0
  have hnw1:=World.new_ne w _ c1
  go_enter Tryz.func127,Tryz.ntmps127
  go_wp2
  go_region_held3(fun w'=>w'.cell? ⟨sb,0,none⟩=some (.slice (some ⟨b,off,none⟩) n cap)∧w'.cell? ⟨sb,1,none⟩=some (.int .i64 a))(go_keep)
   (first|(go_at_call 132;refine(NX.out _ ?_).mono ?_;(rotate_left;rintro e w1⟨rfl,hb1,m0,m1⟩;obtain⟨q1,q2,q3⟩:=below_eqs hb1;rotate_right;(repeat' first|exact Below.refl _ _|assumption|refine below_drewN ?_ _|refine Below.setCell ?_ (by simp) _|refine Below.alloc ?_ (by simp) _))))
  ·have hg:(w1.alloc (.cells #[.int .i64 r,.int .i64 a,.int .i64 E] 153)).heap[w1.heap.size]?=some (.cells #[.int .i64 r,.int .i64 a,.int .i64 E] 153 (0,0)):=World.alloc_heap_new _ _
   have S0:=h.drew.below hb1
   have S:=S0.alloc (.cells #[.int .i64 r,.int .i64 a,.int .i64 E] 153)
   have T0:Tn sb w w1:=Tn.beyond (lin.Turns.drew (lin.Turns.refl _ w)) hb1
   have T:=Tn.more T0 (.cells #[.int .i64 r,.int .i64 a,.int .i64 E] 153)
   obtain⟨g,hG⟩:∃g,w1.heap.size=g:=⟨_,rfl⟩
   have hgl:w.heap.size≤g:=by rw[←hG];exact T0.size
   clear m0 m1 q1 q2 q3 hb1 S0 T0
   generalize w1.alloc (.cells #[.int .i64 r,.int .i64 a,.int .i64 E] 153)=W at*
   rw[hG]at hg⊢
   clear hG
   have hgs:g<W.heap.size:=(Array.getElem?_eq_some_iff.1 hg).1
   have hgne:¬g=sb:=by omega
   obtain⟨g0,g1,g2,y0,y1,y2⟩:=utf.blk3 hg
   obtain⟨d0,d1,d2,d3,d4,x0,x1,x2,x3,x4⟩:=S.cells
   have V:∀W',Below W.heap.size W W'→Calls Tryz.prog 134 #[.slice (some ⟨b,off+a,none⟩) (E-a) (cap-a)] W' fun e w'=>e=.returned (.bool K)∧Below W.heap.size W w'∧w'.cell? ⟨sb,0,none⟩=some (.slice (some ⟨b,off,none⟩) n cap)∧w'.cell? ⟨g,1,none⟩=some (.int .i64 a)∧w'.cell? ⟨g,2,none⟩=some (.int .i64 E):=fun W' hW=>(VA.out W' (S.below hW)).mono fun e w' H=>
    have q:=hW.trans (H.2.mono hW.size)
    ⟨H.1,q,(q.cell (p:=⟨sb,0,none⟩) (by show sb<_;omega)).trans d0,(q.cell (p:=⟨g,1,none⟩) hgs).trans g1,(q.cell (p:=⟨g,2,none⟩) hgs).trans g2⟩
   go_wp2
   go_region_held3(fun w'=>w'.cell? ⟨sb,0,none⟩=some (.slice (some ⟨b,off,none⟩) n cap)∧w'.cell? ⟨g,1,none⟩=some (.int .i64 a)∧w'.cell? ⟨g,2,none⟩=some (.int .i64 E))(go_keep)
    (first|(go_at_call 134;refine(V _ ?_).mono ?_;(rotate_left;rintro e w3⟨rfl,hb3,m0,m1,m2⟩;rotate_right;(repeat' first|exact Below.refl _ _|assumption|refine below_drewN ?_ _|refine Below.setCell ?_ (by simp) _|refine Below.alloc ?_ (by simp) _))))
   have S3:=S.below hb3
   have T3:=Tn.beyond T hb3
   obtain⟨g0',g1',g2',-,-,-⟩:=utf.blk3 ((hb3.block g hgs).trans hg)
   obtain⟨d0',d1',-,-,-,x0',x1',-,-,-⟩:=S3.cells
   clear V VA hb3 m0 m1 m2 d0 d1 d2 d3 d4 x0 x1 x2 x3 x4 g0 g1 g2 y0 y1 y2 S T
   cases K with
   |true=>
    obtain rfl:R=.ok r E:=HR.out
    go_wp2
    go_ret
    refine⟨rfl,?_,?_⟩
    ·exact Sc.put1i S3 rfl (by omega)
    ·exact Tn.put T3 _ _
   |false=>
    obtain rfl:R=.no 131 a:=HR.out
    go_wp2
    exact⟨rfl,rfl,⟨_,_,S3⟩,T3⟩
  ·have hg0:w1.heap[w.heap.size]?=some (.cells #[.int .i64 0,.int .i64 0,.int .i64 0] 153 (0,0)):=(hb1.block _ (by simp)).trans (World.alloc_heap_new _ _)
   have hg:=heap_setCell_same _ _ 2 _ _ (.int .i64 E) (heap_setCell_same _ _ 1 _ _ (.int .i64 a) (heap_setCell_same _ _ 0 _ _ (.int .i64 r) hg0))
   have S0:=(h.alloc (.cells #[.int .i64 0,.int .i64 0,.int .i64 0] 153)).drew.below hb1
   have S:=Sc.later h (p:=⟨w.heap.size,2,none⟩) (Sc.later h (p:=⟨w.heap.size,1,none⟩) (Sc.later h (p:=⟨w.heap.size,0,none⟩) S0 (Nat.le_refl _) (.int .i64 r)) (Nat.le_refl _) (.int .i64 a)) (Nat.le_refl _) (.int .i64 E)
   have T0:Tn sb w w1:=Tn.beyond (lin.Turns.drew (Tn.more (lin.Turns.refl _ w) _)) hb1
   have T:=Tn.new (p:=⟨w.heap.size,2,none⟩) (Tn.new (p:=⟨w.heap.size,1,none⟩) (Tn.new (p:=⟨w.heap.size,0,none⟩) T0 (Nat.le_refl _) (.int .i64 r)) (Nat.le_refl _) (.int .i64 a)) (Nat.le_refl _) (.int .i64 E)
   clear m0 m1 q1 q2 q3 hb1 hg0 S0 T0
   obtain⟨g,hG⟩:∃g,w.heap.size=g:=⟨_,rfl⟩
   have hgl:w.heap.size≤g:=by omega
   generalize((w1.setCell ⟨w.heap.size,0,none⟩ (.int .i64 r)).setCell ⟨w.heap.size,1,none⟩ (.int .i64 a)).setCell ⟨w.heap.size,2,none⟩ (.int .i64 E)=W at*
   rw[hG]at hg⊢
   clear hG
   have hgs:g<W.heap.size:=(Array.getElem?_eq_some_iff.1 hg).1
   have hgne:¬g=sb:=by omega
   obtain⟨g0,g1,g2,y0,y1,y2⟩:=utf.blk3 hg
   obtain⟨d0,d1,d2,d3,d4,x0,x1,x2,x3,x4⟩:=S.cells
   have V:∀W',Below W.heap.size W W'→Calls Tryz.prog 134 #[.slice (some ⟨b,off+a,none⟩) (E-a) (cap-a)] W' fun e w'=>e=.returned (.bool K)∧Below W.heap.size W w'∧w'.cell? ⟨sb,0,none⟩=some (.slice (some ⟨b,off,none⟩) n cap)∧w'.cell? ⟨g,1,none⟩=some (.int .i64 a)∧w'.cell? ⟨g,2,none⟩=some (.int .i64 E):=fun W' hW=>(VA.out W' (S.below hW)).mono fun e w' H=>
    have q:=hW.trans (H.2.mono hW.size)
    ⟨H.1,q,(q.cell (p:=⟨sb,0,none⟩) (by show sb<_;omega)).trans d0,(q.cell (p:=⟨g,1,none⟩) hgs).trans g1,(q.cell (p:=⟨g,2,none⟩) hgs).trans g2⟩
   go_wp2
   go_region_held3(fun w'=>w'.cell? ⟨sb,0,none⟩=some (.slice (some ⟨b,off,none⟩) n cap)∧w'.cell? ⟨g,1,none⟩=some (.int .i64 a)∧w'.cell? ⟨g,2,none⟩=some (.int .i64 E))(go_keep)
    (first|(go_at_call 134;refine(V _ ?_).mono ?_;(rotate_left;rintro e w3⟨rfl,hb3,m0,m1,m2⟩;rotate_right;(repeat' first|exact Below.refl _ _|assumption|refine below_drewN ?_ _|refine Below.setCell ?_ (by simp) _|refine Below.alloc ?_ (by simp) _))))
   have S3:=S.below hb3
   have T3:=Tn.beyond T hb3
   obtain⟨g0',g1',g2',-,-,-⟩:=utf.blk3 ((hb3.block g hgs).trans hg)
   obtain⟨d0',d1',-,-,-,x0',x1',-,-,-⟩:=S3.cells
   clear V VA hb3 m0 m1 m2 d0 d1 d2 d3 d4 x0 x1 x2 x3 x4 g0 g1 g2 y0 y1 y2 S T
   cases K with
   |true=>
    obtain rfl:R=.ok r E:=HR.out
    go_wp2
    go_ret
    refine⟨rfl,?_,?_⟩
    ·exact Sc.put1i S3 rfl (by omega)
    ·exact Tn.put T3 _ _
   |false=>
    obtain rfl:R=.no 131 a:=HR.out
    go_wp2
    exact⟨rfl,rfl,⟨_,_,S3⟩,T3⟩
 ·obtain rfl:R=.no 130 n:=by rw[←hR];unfold point;rw[if_neg hl]
  clear hR
  have NX:Hid (∀W,Below w.heap.size w W→Calls Tryz.prog 132 #[.slice ao n cap,.int .i64 a] W fun e w'=>
   e=.returned (.tuple #[.agg #[.int .i64 0,.int .i64 0,.int .i64 0],.bool false])∧Below W.heap.size W w'∧w'.cell? ⟨sb,0,none⟩=some (.slice ao n cap)∧w'.cell? ⟨sb,1,none⟩=some (.int .i64 a)):=fun W hW=>(utf.next_no ao n cap a W (.inr (by omega))).mono fun e w' H=>
    ⟨H.1,H.2,(hW.trans (H.2.mono hW.size)).cell (p:=⟨sb,0,none⟩) hlt|>.trans c0,(hW.trans (H.2.mono hW.size)).cell (p:=⟨sb,1,none⟩) hlt|>.trans c1⟩
  have hne:¬sb=w.heap.size:=by omega
  have hne':¬w.heap.size=sb:=by omega
  have hnw:=World.new_ne w _ c0
  have hnw1:=World.new_ne w _ c1
  go_enter Tryz.func127,Tryz.ntmps127
  go_wp2
  go_region_held3(fun w'=>w'.cell? ⟨sb,0,none⟩=some (.slice ao n cap)∧w'.cell? ⟨sb,1,none⟩=some (.int .i64 a))(go_keep)
   (first|(go_at_call 132;refine(NX.out _ ?_).mono ?_;(rotate_left;rintro e w1⟨rfl,hb1,m0,m1⟩;obtain⟨q1,q2,q3⟩:=below_eqs hb1;rotate_right;(repeat' first|exact Below.refl _ _|assumption|refine below_drewN ?_ _|refine Below.setCell ?_ (by simp) _|refine Below.alloc ?_ (by simp) _))))
  ·have S:=(h.drew.below hb1).alloc (.cells #[.int .i64 0,.int .i64 0,.int .i64 0] 153)
   have T:Tn sb w _:=Tn.more (Tn.beyond (lin.Turns.drew (lin.Turns.refl _ w)) hb1) (.cells #[.int .i64 0,.int .i64 0,.int .i64 0] 153)
   have C:=cut_any sb ao n cap _ S.cells.1
   clear q1 q2 q3 hb1 m0 m1
   go_wp2_with fail
   refine C.mono ?_
   rintro e w3⟨rfl,hb3⟩
   have S3:=S.below hb3
   have T3:=Tn.beyond T hb3
   go_wp2
   exact⟨rfl,rfl,⟨_,_,S3⟩,T3⟩
  ·have S:=Sc.later h (p:=⟨w.heap.size,2,none⟩) (Sc.later h (p:=⟨w.heap.size,1,none⟩) (Sc.later h (p:=⟨w.heap.size,0,none⟩) ((h.alloc (.cells #[.int .i64 0,.int .i64 0,.int .i64 0] 153)).drew.below hb1) (Nat.le_refl _) (.int .i64 0)) (Nat.le_refl _) (.int .i64 0)) (Nat.le_refl _) (.int .i64 0)
   have T0:Tn sb w w1:=Tn.beyond (lin.Turns.drew (Tn.more (lin.Turns.refl _ w) _)) hb1
   have T:=Tn.new (p:=⟨w.heap.size,2,none⟩) (Tn.new (p:=⟨w.heap.size,1,none⟩) (Tn.new (p:=⟨w.heap.size,0,none⟩) T0 (Nat.le_refl _) (.int .i64 0)) (Nat.le_refl _) (.int .i64 0)) (Nat.le_refl _) (.int .i64 0)
   have C:=cut_any sb ao n cap _ S.cells.1
   clear q1 q2 q3 hb1 m0 m1 T0
   go_wp2_with fail
   refine C.mono ?_
   rintro e w3⟨rfl,hb3⟩
   have S3:=S.below hb3
   have T3:=Tn.beyond T hb3
   go_wp2
   exact⟨rfl,rfl,⟨_,_,S3⟩,T3⟩
end Go.Proofs.YtbbeciofgnkggaaGreatDoor.tok
section
namespace Go.Proofs.YtbbeciofgnkggaaGreatDoor.tok
open Go.RowKit
open lin(BA Turns)
theorem infoTok:(Tryz.prog.info? 97).map (·.size)=some 8:=by kernel_rfl
/--A token's cells, stored one by one. -/
abbrev W8(w:World)(g:Nat)(v0 v1 v2 v3 v4 v5 v6 v7:Value):World:=((((((((w.setCell ⟨g,0,none⟩ v0).setCell ⟨g,1,none⟩ v1).setCell ⟨g,2,none⟩ v2).setCell ⟨g,3,none⟩ v3).setCell ⟨g,4,none⟩ v4).setCell ⟨g,5,none⟩ v5).setCell ⟨g,6,none⟩ v6).setCell ⟨g,7,none⟩ v7)
theorem heap8{w:World}{g:Nat}{x0 x1 x2 x3 x4 x5 x6 x7:Value}{t:TypeId}(G:w.heap[g]?=some (.cells #[x0,x1,x2,x3,x4,x5,x6,x7] t (0,0)))(v0 v1 v2 v3 v4 v5 v6 v7:Value):(W8 w g v0 v1 v2 v3 v4 v5 v6 v7).heap[g]?=some (.cells #[v0,v1,v2,v3,v4,v5,v6,v7] t (0,0)):=by
 have:=heap_setCell_same _ g 7 _ _ v7 (heap_setCell_same _ g 6 _ _ v6 (heap_setCell_same _ g 5 _ _ v5 (heap_setCell_same _ g 4 _ _ v4 (heap_setCell_same _ g 3 _ _ v3 (heap_setCell_same _ g 2 _ _ v2 (heap_setCell_same _ g 1 _ _ v1 (heap_setCell_same _ g 0 _ _ v0 G)))))))
 simpa only[List.setIfInBounds_toArray,List.set_cons_zero,List.set_cons_succ]using this
section
variable{w0 w1 w2:World}{sb:Nat}{ao:Option Addr}{n cap:Nat}{f:Nat→Int}{a0 st k0 a k:Nat}{tv0 tv:Value}{g:Nat}{x0 x1 x2 x3 x4 x5 x6 x7:Value}{t:TypeId}(h0:Sc w0 sb ao n cap f a0 st k0 tv0)(S:Sc w1 sb ao n cap f a st k tv)(T:Tn sb w0 w1)
include h0 S T
/--A token stored whole into a block of the call's own. -/
theorem set8(G:w1.heap[g]?=some (.cells #[x0,x1,x2,x3,x4,x5,x6,x7] t (0,0)))(hg:w0.heap.size≤g)(v0 v1 v2 v3 v4 v5 v6 v7:Value):(W8 w1 g v0 v1 v2 v3 v4 v5 v6 v7).heap[g]?=some (.cells #[v0,v1,v2,v3,v4,v5,v6,v7] t (0,0))∧Sc (W8 w1 g v0 v1 v2 v3 v4 v5 v6 v7) sb ao n cap f a st k tv∧Tn sb w0 (W8 w1 g v0 v1 v2 v3 v4 v5 v6 v7):=
 ⟨heap8 G ..,Sc.later h0 (p:=⟨g,7,none⟩) (Sc.later h0 (p:=⟨g,6,none⟩) (Sc.later h0 (p:=⟨g,5,none⟩) (Sc.later h0 (p:=⟨g,4,none⟩) (Sc.later h0 (p:=⟨g,3,none⟩) (Sc.later h0 (p:=⟨g,2,none⟩) (Sc.later h0 (p:=⟨g,1,none⟩) (Sc.later h0 (p:=⟨g,0,none⟩) S hg v0) hg v1) hg v2) hg v3) hg v4) hg v5) hg v6) hg v7,Tn.new (p:=⟨g,7,none⟩) (Tn.new (p:=⟨g,6,none⟩) (Tn.new (p:=⟨g,5,none⟩) (Tn.new (p:=⟨g,4,none⟩) (Tn.new (p:=⟨g,3,none⟩) (Tn.new (p:=⟨g,2,none⟩) (Tn.new (p:=⟨g,1,none⟩) (Tn.new (p:=⟨g,0,none⟩) T hg v0) hg v1) hg v2) hg v3) hg v4) hg v5) hg v6) hg v7⟩
theorem fin8{fn:Func}{p:Tmp}{R:Ending→World→Prop}{act:Act}{v0 v1 v2 v3 v4 v5 v6 v7:Value}(hf:fn.results=#[.cell p 97])(G:w1.heap[w0.heap.size]?=some (.cells #[x0,x1,x2,x3,x4,x5,x6,x7] 97 (0,0)))(hp:act.tmps.getD p undef=.pointer (some ⟨w0.heap.size,0,none⟩))(hd:act.defers=[])
  (hR:Sc (W8 w1 w0.heap.size v0 v1 v2 v3 v4 v5 v6 v7) sb ao n cap f a st k tv→Tn sb w0 (W8 w1 w0.heap.size v0 v1 v2 v3 v4 v5 v6 v7)→R (.returned (.agg #[v0,v1,v2,v3,v4,v5,v6,v7])) (W8 w1 w0.heap.size v0 v1 v2 v3 v4 v5 v6 v7)):bodyPost Tryz.prog fn R .ret act (W8 w1 w0.heap.size v0 v1 v2 v3 v4 v5 v6 v7):=
 have H:=set8 h0 S T G (Nat.le_refl _) v0 v1 v2 v3 v4 v5 v6 v7
 bodyPost_ret (results_cell_row hf _ _ w0.heap.size _ _ _ _ hp H.1 Tryz.underlying97 rfl infoTok) hd (hR H.2.1 H.2.2)
omit h0 in
theorem nxt{o:Obj}(G:w1.heap[g]?=some o)(hb:Below w1.heap.size w1 w2):Sc w2 sb ao n cap f a st k tv∧Tn sb w0 w2∧w2.heap[g]?=some o:=⟨S.below hb,Tn.beyond T hb,(hb.block _ (Array.getElem?_eq_some_iff.1 G).1).trans G⟩
omit S T
theorem Sc.start:sb<w0.heap.size∧w0.heap.size≠sb∧¬w0.heap.size=sb∧¬sb=w0.heap.size∧Sc (w0.alloc (.cells #[.int .i64 0,.int .i64 0,.int .i64 0,.int .i64 0,.string ⟨#[]⟩,.bool false,.int .i64 0,.int .i64 0] 97)) sb ao n cap f a0 st k0 tv0∧Tn sb w0 (w0.alloc (.cells #[.int .i64 0,.int .i64 0,.int .i64 0,.int .i64 0,.string ⟨#[]⟩,.bool false,.int .i64 0,.int .i64 0] 97))∧(w0.alloc (.cells #[.int .i64 0,.int .i64 0,.int .i64 0,.int .i64 0,.string ⟨#[]⟩,.bool false,.int .i64 0,.int .i64 0] 97)).heap[w0.heap.size]?=some (.cells #[.int .i64 0,.int .i64 0,.int .i64 0,.int .i64 0,.string ⟨#[]⟩,.bool false,.int .i64 0,.int .i64 0] 97 (0,0)):=
 have hl:=h0.lt
 ⟨hl,by omega,by omega,by omega,h0.alloc _,Tn.more (lin.Turns.refl _ w0) _,World.alloc_heap_new _ _⟩
theorem fin0{fn:Func}{p:Tmp}{R:Ending→World→Prop}{act:Act}{v0 v1 v2 v3 v4 v5 v6 v7:Value}(hf:fn.results=#[.cell p 97])(hp:act.tmps.getD p undef=.pointer (some ⟨w0.heap.size,0,none⟩))(hd:act.defers=[])
  (hR:Sc (w0.alloc (.cells #[v0,v1,v2,v3,v4,v5,v6,v7] 97)) sb ao n cap f a0 st k0 tv0→Tn sb w0 (w0.alloc (.cells #[v0,v1,v2,v3,v4,v5,v6,v7] 97))→R (.returned (.agg #[v0,v1,v2,v3,v4,v5,v6,v7])) (w0.alloc (.cells #[v0,v1,v2,v3,v4,v5,v6,v7] 97))):bodyPost Tryz.prog fn R .ret act (w0.alloc (.cells #[v0,v1,v2,v3,v4,v5,v6,v7] 97)):=
 bodyPost_ret (results_cell_row hf _ _ w0.heap.size _ _ _ _ hp (World.alloc_heap_new _ _) Tryz.underlying97 rfl infoTok) hd (hR (h0.alloc _) (Tn.more (lin.Turns.refl _ w0) _))
end
theorem hide{α:Type}(x:α):∃R,x=R∧Hid (x=R):=⟨x,rfl,rfl⟩
theorem char_any(r:Int)(w:World):
  Calls Tryz.prog 137 #[.int .i64 r] w fun e w'=>e=.returned (char r).val∧Below w.heap.size w w':=by
 go_enter Tryz.func137,Tryz.ntmps137
 go_wp2
 refine bodyPost_ret (v:=(char r).val) (by simp[results,Tryz.results137,go_sem];rfl) rfl ⟨rfl,?_⟩
 (repeat' first|exact Below.refl _ _|assumption|refine below_drewN ?_ _|refine Below.setCell ?_ (by simp) _|refine Below.alloc ?_ (by simp) _)
theorem property_any(s:List UInt8)(b:Bool)(w:World):
  Calls Tryz.prog 135 #[.string (BA s),.bool b] w fun e w'=>e=.returned (prop s b).val∧Below w.heap.size w w':=by
 go_enter Tryz.func135,Tryz.ntmps135
 go_wp2
 refine bodyPost_ret (v:=(prop s b).val) (by simp[results,Tryz.results135,go_sem];rfl) rfl ⟨rfl,?_⟩
 (repeat' first|exact Below.refl _ _|assumption|refine below_drewN ?_ _|refine Below.setCell ?_ (by simp) _|refine Below.alloc ?_ (by simp) _)
theorem opening_any(m:Int)(w:World):
  Calls Tryz.prog 155 #[.int .i64 m] w fun e w'=>e=.returned (opening m).val∧Below w.heap.size w w':=by
 go_enter Tryz.func155,Tryz.ntmps155
 go_wp2
 refine bodyPost_ret (v:=(opening m).val) (by simp[results,Tryz.results155,go_sem];rfl) rfl ⟨rfl,?_⟩
 (repeat' first|exact Below.refl _ _|assumption|refine below_drewN ?_ _|refine Below.setCell ?_ (by simp) _|refine Below.alloc ?_ (by simp) _)
theorem assertion_any(m:Int)(w:World):
  Calls Tryz.prog 148 #[.int .i64 m] w fun e w'=>e=.returned (asrt m).val∧Below w.heap.size w w':=by
 go_enter Tryz.func148,Tryz.ntmps148
 go_wp2
 refine bodyPost_ret (v:=(asrt m).val) (by simp[results,Tryz.results148,go_sem];rfl) rfl ⟨rfl,?_⟩
 (repeat' first|exact Below.refl _ _|assumption|refine below_drewN ?_ _|refine Below.setCell ?_ (by simp) _|refine Below.alloc ?_ (by simp) _)
theorem class_any(sb:Nat)(ao:Option Addr)(n cap:Nat)(f:Nat→Int)(a st k:Nat)(tv:Value)(w:World)(h:Sc w sb ao n cap f a st k tv)(hk:k+1≤1000000):
  Calls Tryz.prog 143 #[.pointer (some ⟨sb,0,none⟩)] w (End w sb ao n cap f st (k+1) tv Tk.val (class_ f n a)):=by
 have hlt:=h.lt
 have hne:¬sb=w.heap.size:=by omega
 have hne':¬w.heap.size=sb:=by omega
 obtain⟨c0,c1,c2,c3,c4,z0,z1,z2,z3,z4⟩:=h.cells
 have S0:=(h.put3 hk).alloc (.cells #[.int .i64 0,.int .i64 0,.int .i64 0,.int .i64 0,.string ⟨#[]⟩,.bool false,.int .i64 0,.int .i64 0] 97)
 have T0:Tn sb w _:=Tn.more (Tn.put (lin.Turns.refl _ w) 3 (.int .i64 ((k+1:Nat):Int))) (.cells #[.int .i64 0,.int .i64 0,.int .i64 0,.int .i64 0,.string ⟨#[]⟩,.bool false,.int .i64 0,.int .i64 0] 97)
 have G0:((w.setCell ⟨sb,3,none⟩ (.int .i64 ((k+1:Nat):Int))).alloc (.cells #[.int .i64 0,.int .i64 0,.int .i64 0,.int .i64 0,.string ⟨#[]⟩,.bool false,.int .i64 0,.int .i64 0] 97)).heap[w.heap.size]?=some (.cells #[.int .i64 0,.int .i64 0,.int .i64 0,.int .i64 0,.string ⟨#[]⟩,.bool false,.int .i64 0,.int .i64 0] 97 (0,0)):=by
  have:=World.alloc_heap_new (w.setCell ⟨sb,3,none⟩ (.int .i64 ((k+1:Nat):Int))) (.cells #[.int .i64 0,.int .i64 0,.int .i64 0,.int .i64 0,.string ⟨#[]⟩,.bool false,.int .i64 0,.int .i64 0] 97)
  simpa using this
 have e1:((k+1:Nat):Int)=(k:Int)+1:=by omega
 rw[e1]at S0 T0 G0
 have C:=accept_any sb ao n cap f a st (k+1) tv _ S0 94
 obtain⟨R,hR⟩:∃R,class_ f n a=R:=⟨_,rfl⟩
 rw[hR]
 have HR:Hid (R=.ok (classT (at_ f n a 94)) (if at_ f n a 94=true then a+1 else a)):=by unfold Hid;rw[←hR];unfold class_;cases at_ f n a 94<;>rfl
 clear hR
 generalize at_ f n a 94=q at*
 generalize(if q=true then a+1 else a)=a' at*
 obtain rfl:=HR.out
 clear HR
 go_enter Tryz.func143,Tryz.ntmps143
 go_wp2_with fail
 refine C.mono ?_
 rintro e w1⟨rfl,S1,T1⟩
 have G1:=Tn.blk T1 G0 (Ne.symm hne)
 have T2:=T0.trans T1
 obtain⟨⟨k0,k1,k2,k3,k4,k5,k6,k7⟩,⟨f0,f1,f2,f3,f4,f5,f6,f7⟩⟩:=blk8 G1
 clear C T0 T1 G0 S0
 go_wp2
 obtain⟨G3,S3,T3⟩:=set8 h S1 T2 G1 (Nat.le_refl _) (.int .i64 11) (.int .i64 0) (.int .i64 0) (.int .i64 0) (.string ⟨#[]⟩) (.bool q) (.int .i64 0) (.int .i64 0)
 exact bodyPost_ret (results_cell_row Tryz.results143 _ _ w.heap.size _ _ _ _ rfl G3 Tryz.underlying97 rfl infoTok) rfl ⟨rfl,S3,T3⟩
end Go.Proofs.YtbbeciofgnkggaaGreatDoor.tok
end
namespace Go.Proofs.YtbbeciofgnkggaaGreatDoor.tok
open Go.RowKit
open lin(BA Turns)
theorem edge_any(sb:Nat)(ao:Option Addr)(n cap:Nat)(f:Nat→Int)(a st k:Nat)(tv:Value)(w:World)(h:Sc w sb ao n cap f a st k tv)(x y z:Int):
  Calls Tryz.prog 153 #[.pointer (some ⟨sb,0,none⟩),.int .i64 x,.int .i64 y,.int .i64 z] w (End w sb ao n cap f st k tv Tk.val (edge f n st x y z a)):=by
 obtain⟨hlt,hgn,hgn',hgn2,S0,T0,G0⟩:=h.start
 obtain⟨R,hR,HR⟩:=hide (edge f n st x y z a)
 rw[hR]
 clear hR
 go_enter Tryz.func153,Tryz.ntmps153
 have C:=accept_any sb ao n cap f (a) st k tv _ S0 123
 obtain⟨b,hq,Q01⟩:=hide (at_ f n (a) 123)
 rw[hq]at C
 clear hq
 go_wp2_with fail
 refine C.mono ?_
 rintro e w1⟨rfl,S1,T⟩
 have T1:=T0.trans T
 have G1:=Tn.blk T G0 hgn
 clear C T S0 T0 G0
 cases b with
 |true=>
  rw[if_pos rfl]at S1
  have C:=octet_any sb ao n cap f (a+1) st k tv _ S1
  obtain⟨o,ho,O12⟩:=hide (octet f n (a+1))
  rw[ho]at C
  clear ho
  go_wp2_with fail
  refine C.mono ?_
  intro e w2 H
  clear C
  cases o with
  |no q p=>
   obtain⟨rfl,⟨a',k',S'⟩,T'⟩:=H
   obtain rfl:R=.no q p:=by rw[←HR.out];simp[edge,bind_ok,bind_no,Q01.out,O12.out]
   have T'':=T1.trans T'
   go_wp2
   exact⟨rfl,rfl,⟨_,_,S'⟩,T''⟩
  |ok c a1=>
   obtain⟨rfl,S2,T'⟩:=H
   have T2:=T1.trans T'
   have G2:=Tn.blk T' G1 hgn
   clear T' S1 T1 G1
   unfold iv
   rcases(show c=103∨c=119∨(¬c=103∧¬c=119)from by omega)with rfl|rfl|⟨n1,n2⟩
   ·
    have C:=want_any sb ao n cap f a1 st k tv _ S2 125
    obtain⟨o,ho,O23⟩:=hide (want f n st 125 a1)
    rw[ho]at C
    clear ho
    go_wp2_with fail
    refine C.mono ?_
    intro e w3 H
    clear C
    cases o with
    |no q p=>
     obtain⟨rfl,⟨a',k',S'⟩,T'⟩:=H
     obtain rfl:R=.no q p:=by rw[←HR.out];simp[edge,bind_ok,bind_no,Q01.out,O12.out,O23.out]
     have T'':=T2.trans T'
     go_wp2
     exact⟨rfl,rfl,⟨_,_,S'⟩,T''⟩
    |ok u a2=>
     obtain⟨rfl,S3,T'⟩:=H
     have T3:=T2.trans T'
     have G3:=Tn.blk T' G2 hgn
     clear T' S2 T2 G2
     unfold uv
     obtain rfl:R=.ok (asrt y) (a2):=by rw[←HR.out];simp[edge,bind_ok,bind_no,Q01.out,O12.out,O23.out]
     clear HR
     have C:=assertion_any y w3
     go_wp2_with fail
     refine C.mono ?_
     rintro e w4⟨rfl,hb⟩
     clear C
     obtain⟨S4,T4,G4⟩:=nxt S3 T3 G3 hb
     clear hb S3 T3 G3
     rw[show(asrt y).val=.agg #[.int .i64 7,.int .i64 y,.int .i64 (0),.int .i64 (0),.string ⟨#[]⟩,.bool false,.int .i64 (0),.int .i64 (0)]from rfl]
     obtain⟨⟨k0,k1,k2,k3,k4,k5,k6,k7⟩,⟨f0,f1,f2,f3,f4,f5,f6,f7⟩⟩:=blk8 G4
     go_wp2
     exact fin8 h S4 T4 Tryz.results153 G4 rfl rfl fun S T=>⟨rfl,S,T⟩
   ·
    have C:=want_any sb ao n cap f a1 st k tv _ S2 125
    obtain⟨o,ho,O23⟩:=hide (want f n st 125 a1)
    rw[ho]at C
    clear ho
    go_wp2_with fail
    refine C.mono ?_
    intro e w3 H
    clear C
    cases o with
    |no q p=>
     obtain⟨rfl,⟨a',k',S'⟩,T'⟩:=H
     obtain rfl:R=.no q p:=by rw[←HR.out];simp[edge,bind_ok,bind_no,Q01.out,O12.out,O23.out]
     have T'':=T2.trans T'
     go_wp2
     exact⟨rfl,rfl,⟨_,_,S'⟩,T''⟩
    |ok u a2=>
     obtain⟨rfl,S3,T'⟩:=H
     have T3:=T2.trans T'
     have G3:=Tn.blk T' G2 hgn
     clear T' S2 T2 G2
     unfold uv
     obtain rfl:R=.ok (asrt z) (a2):=by rw[←HR.out];simp[edge,bind_ok,bind_no,Q01.out,O12.out,O23.out]
     clear HR
     have C:=assertion_any z w3
     go_wp2_with fail
     refine C.mono ?_
     rintro e w4⟨rfl,hb⟩
     clear C
     obtain⟨S4,T4,G4⟩:=nxt S3 T3 G3 hb
     clear hb S3 T3 G3
     rw[show(asrt z).val=.agg #[.int .i64 7,.int .i64 z,.int .i64 (0),.int .i64 (0),.string ⟨#[]⟩,.bool false,.int .i64 (0),.int .i64 (0)]from rfl]
     obtain⟨⟨k0,k1,k2,k3,k4,k5,k6,k7⟩,⟨f0,f1,f2,f3,f4,f5,f6,f7⟩⟩:=blk8 G4
     go_wp2
     exact fin8 h S4 T4 Tryz.results153 G4 rfl rfl fun S T=>⟨rfl,S,T⟩
   ·
    have m1:(c==103)=false:=by simp[n1]
    have m2:(c==119)=false:=by simp[n2]
    obtain rfl:R=nope f st:=by rw[←HR.out];simp[edge,bind_ok,bind_no,Q01.out,O12.out,n1,n2]
    have C:=none_any sb ao n cap f (a1) st k tv _ S2
    clear HR
    go_wp2_with fail
    refine C.mono ?_
    rintro e w'⟨rfl,hb⟩
    have S':=S2.below hb
    have T':=Tn.beyond T2 hb
    go_wp2
    exact⟨rfl,rfl,⟨_,_,S'⟩,T'⟩
 |false=>
  rw[if_neg (by decide)]at S1
  obtain rfl:R=.ok (asrt x) (a):=by rw[←HR.out];simp[edge,bind_ok,bind_no,Q01.out]
  clear HR
  have C:=assertion_any x w1
  go_wp2_with fail
  refine C.mono ?_
  rintro e w2⟨rfl,hb⟩
  clear C
  obtain⟨S2,T2,G2⟩:=nxt S1 T1 G1 hb
  clear hb S1 T1 G1
  rw[show(asrt x).val=.agg #[.int .i64 7,.int .i64 x,.int .i64 (0),.int .i64 (0),.string ⟨#[]⟩,.bool false,.int .i64 (0),.int .i64 (0)]from rfl]
  obtain⟨⟨k0,k1,k2,k3,k4,k5,k6,k7⟩,⟨f0,f1,f2,f3,f4,f5,f6,f7⟩⟩:=blk8 G2
  go_wp2
  exact fin8 h S2 T2 Tryz.results153 G2 rfl rfl fun S T=>⟨rfl,S,T⟩
theorem repeat_any(sb:Nat)(ao:Option Addr)(n cap:Nat)(f:Nat→Int)(a st k:Nat)(tv:Value)(w:World)(h:Sc w sb ao n cap f a st k tv)(x y:Int):
  Calls Tryz.prog 146 #[.pointer (some ⟨sb,0,none⟩),.int .i64 x,.int .i64 y] w (End w sb ao n cap f st k tv Tk.val (rep f n x y a)):=by
 have hlt:=h.lt
 have hgn:w.heap.size≠sb:=by omega
 have hln:w.heap.size+1≠sb:=by omega
 have S0:=(h.alloc (.cells #[.int .i64 0,.int .i64 0,.int .i64 0,.int .i64 0,.string ⟨#[]⟩,.bool false,.int .i64 0,.int .i64 0] 97)).alloc (.cells #[.int .i64 6,.int .i64 0,.int .i64 x,.int .i64 y,.string ⟨#[]⟩,.bool false,.int .i64 0,.int .i64 0] 97)
 have T0:Tn sb w _:=Tn.more (Tn.more (lin.Turns.refl _ w) (.cells #[.int .i64 0,.int .i64 0,.int .i64 0,.int .i64 0,.string ⟨#[]⟩,.bool false,.int .i64 0,.int .i64 0] 97)) (.cells #[.int .i64 6,.int .i64 0,.int .i64 x,.int .i64 y,.string ⟨#[]⟩,.bool false,.int .i64 0,.int .i64 0] 97)
 have G0:((w.alloc (.cells #[.int .i64 0,.int .i64 0,.int .i64 0,.int .i64 0,.string ⟨#[]⟩,.bool false,.int .i64 0,.int .i64 0] 97)).alloc (.cells #[.int .i64 6,.int .i64 0,.int .i64 x,.int .i64 y,.string ⟨#[]⟩,.bool false,.int .i64 0,.int .i64 0] 97)).heap[w.heap.size]?=some (.cells #[.int .i64 0,.int .i64 0,.int .i64 0,.int .i64 0,.string ⟨#[]⟩,.bool false,.int .i64 0,.int .i64 0] 97 (0,0)):=(Below.heap_alloc _ _ _ (by simp)).trans (World.alloc_heap_new _ _)
 have L0:((w.alloc (.cells #[.int .i64 0,.int .i64 0,.int .i64 0,.int .i64 0,.string ⟨#[]⟩,.bool false,.int .i64 0,.int .i64 0] 97)).alloc (.cells #[.int .i64 6,.int .i64 0,.int .i64 x,.int .i64 y,.string ⟨#[]⟩,.bool false,.int .i64 0,.int .i64 0] 97)).heap[w.heap.size+1]?=some (.cells #[.int .i64 6,.int .i64 0,.int .i64 x,.int .i64 y,.string ⟨#[]⟩,.bool false,.int .i64 0,.int .i64 0] 97 (0,0)):=by
  have:=World.alloc_heap_new (w.alloc (.cells #[.int .i64 0,.int .i64 0,.int .i64 0,.int .i64 0,.string ⟨#[]⟩,.bool false,.int .i64 0,.int .i64 0] 97)) (.cells #[.int .i64 6,.int .i64 0,.int .i64 x,.int .i64 y,.string ⟨#[]⟩,.bool false,.int .i64 0,.int .i64 0] 97)
  simpa using this
 obtain⟨R,hR⟩:∃R,rep f n x y a=R:=⟨_,rfl⟩
 rw[hR]
 have HR:Hid (rep f n x y a=R):=hR
 clear hR
 go_enter Tryz.func146,Tryz.ntmps146
 have C:=accept_any sb ao n cap f (a) st k tv _ S0 63
 obtain⟨b,hq,Q01⟩:=hide (at_ f n (a) 63)
 rw[hq]at C
 clear hq
 go_wp2_with fail
 refine C.mono ?_
 rintro e w1⟨rfl,S1,T⟩
 have T1:=T0.trans T
 have G1:=Tn.blk T G0 hgn
 have L1:=Tn.blk T L0 hln
 clear C T S0 T0 G0
 cases b with
 |true=>
  rw[if_pos rfl]at S1
  obtain rfl:R=.ok ⟨6,1,x,y,[],false,0,0⟩ (a+1):=by rw[←HR.out];simp[rep,bind_ok,bind_no,Q01.out]
  clear HR
  obtain⟨⟨k0,k1,k2,k3,k4,k5,k6,k7⟩,⟨f0,f1,f2,f3,f4,f5,f6,f7⟩⟩:=blk8 G1
  obtain⟨⟨l0,l1,l2,l3,l4,l5,l6,l7⟩,⟨r0,r1,r2,r3,r4,r5,r6,r7⟩⟩:=blk8 L1
  go_wp2
  have SM:=Sc.later h S1 (p:=⟨w.heap.size+1,1,none⟩) (by simp) (.int .i64 1)
  have TM:=Tn.new T1 (p:=⟨w.heap.size+1,1,none⟩) (by simp) (.int .i64 1)
  have GM:=(heap_setCell_other _ ⟨w.heap.size+1,1,none⟩ w.heap.size (.int .i64 1) (by simp)).trans G1
  obtain⟨GF,SF,TF⟩:=set8 h SM TM GM (Nat.le_refl _) (.int .i64 6) (.int .i64 1) (.int .i64 x) (.int .i64 y) (.string ⟨#[]⟩) (.bool false) (.int .i64 (0)) (.int .i64 (0))
  exact bodyPost_ret (results_cell_row Tryz.results146 _ _ w.heap.size _ _ _ _ rfl GF Tryz.underlying97 rfl infoTok) rfl ⟨rfl,SF,TF⟩
 |false=>
  rw[if_neg (by decide)]at S1
  have C:=accept_any sb ao n cap f (a) st k tv _ S1 43
  obtain⟨b,hq,Q12⟩:=hide (at_ f n (a) 43)
  rw[hq]at C
  clear hq
  go_wp2_with fail
  refine C.mono ?_
  rintro e w2⟨rfl,S2,T⟩
  have T2:=T1.trans T
  have G2:=Tn.blk T G1 hgn
  have L2:=Tn.blk T L1 hln
  clear C T S1 T1 G1
  cases b with
  |true=>
   rw[if_pos rfl]at S2
   obtain rfl:R=.ok ⟨6,2,x,y,[],false,0,0⟩ (a+1):=by rw[←HR.out];simp[rep,bind_ok,bind_no,Q01.out,Q12.out]
   clear HR
   obtain⟨⟨k0,k1,k2,k3,k4,k5,k6,k7⟩,⟨f0,f1,f2,f3,f4,f5,f6,f7⟩⟩:=blk8 G2
   obtain⟨⟨l0,l1,l2,l3,l4,l5,l6,l7⟩,⟨r0,r1,r2,r3,r4,r5,r6,r7⟩⟩:=blk8 L2
   go_wp2
   have SM:=Sc.later h S2 (p:=⟨w.heap.size+1,1,none⟩) (by simp) (.int .i64 2)
   have TM:=Tn.new T2 (p:=⟨w.heap.size+1,1,none⟩) (by simp) (.int .i64 2)
   have GM:=(heap_setCell_other _ ⟨w.heap.size+1,1,none⟩ w.heap.size (.int .i64 2) (by simp)).trans G2
   obtain⟨GF,SF,TF⟩:=set8 h SM TM GM (Nat.le_refl _) (.int .i64 6) (.int .i64 2) (.int .i64 x) (.int .i64 y) (.string ⟨#[]⟩) (.bool false) (.int .i64 (0)) (.int .i64 (0))
   exact bodyPost_ret (results_cell_row Tryz.results146 _ _ w.heap.size _ _ _ _ rfl GF Tryz.underlying97 rfl infoTok) rfl ⟨rfl,SF,TF⟩
  |false=>
   rw[if_neg (by decide)]at S2
   obtain rfl:R=.ok ⟨6,0,x,y,[],false,0,0⟩ (a):=by rw[←HR.out];simp[rep,bind_ok,bind_no,Q01.out,Q12.out]
   clear HR
   obtain⟨⟨k0,k1,k2,k3,k4,k5,k6,k7⟩,⟨f0,f1,f2,f3,f4,f5,f6,f7⟩⟩:=blk8 G2
   obtain⟨⟨l0,l1,l2,l3,l4,l5,l6,l7⟩,⟨r0,r1,r2,r3,r4,r5,r6,r7⟩⟩:=blk8 L2
   go_wp2
   obtain⟨GF,SF,TF⟩:=set8 h S2 T2 G2 (Nat.le_refl _) (.int .i64 6) (.int .i64 0) (.int .i64 x) (.int .i64 y) (.string ⟨#[]⟩) (.bool false) (.int .i64 (0)) (.int .i64 (0))
   exact bodyPost_ret (results_cell_row Tryz.results146 _ _ w.heap.size _ _ _ _ rfl GF Tryz.underlying97 rfl infoTok) rfl ⟨rfl,SF,TF⟩
end Go.Proofs.YtbbeciofgnkggaaGreatDoor.tok
namespace Go.Proofs.YtbbeciofgnkggaaGreatDoor.tok
open Go.RowKit
open lin(BA Turns)
def sv(s:List UInt8):Value:=.string (BA s)
theorem bytes_str(f:Nat→Int)(b e:Nat):strOfNums ((List.range (e-b)).map fun i=>f (b+i))=BA (bytes f b e):=by
 simp[strOfNums,bytes,BA,Function.comp_def]
/--Bytes of the pattern as a string. -/
theorem Sc.conv{w:World}{sb:Nat}{n cap:Nat}{f:Nat→Int}{a st k:Nat}{tv:Value}{b off:Nat}(h:Sc w sb (some ⟨b,off,none⟩) n cap f a st k tv)(b0 e0 c:Nat)(h0:b0≤e0)(h1:e0≤n):
  (convert 47 9 (.slice (some ⟨b,off+b0,none⟩) (e0-b0) c)).run Tryz.prog w=.ok (.string (BA (bytes f b0 e0))) w:=by
 obtain⟨b',off',e,hne,hc⟩:=h.byt
 cases e
 rw[←bytes_str]
 refine run_convert_bytes_arg (P:=Tryz.prog) w 47 5 Tryz.underlying47 Tryz.underlying5 b (off+b0) (e0-b0) c _ (by simp) (fun i hi=>?_) 9 Tryz.underlying9
 rw[Nat.add_assoc,hc (b0+i) (by omega)]
 simp[List.getD,hi]
/--What comes behind a byte of a name that doesn't end it. -/
def nmNext(f:Nat→Int)(n st b:Nat)(c:Int)(a a':Nat):Nat→Out (List UInt8)
 |0=>nope f st
 |left+1=>if nmC c (decide (a=b))=true then nmR f n st b left a' else nope f st
theorem nmR_go(f:Nat→Int)(n st b left a:Nat):nmR f n st b left a=(octet f n a).bind fun c a'=>
  if c=62∧b<a then .ok (bytes f b a) a' else nmNext f n st b c a a' left:=by
 cases left<;>rfl
theorem name_any(sb:Nat)(ao:Option Addr)(n cap:Nat)(f:Nat→Int)(a st k:Nat)(tv:Value)(w:World)(h:Sc w sb ao n cap f a st k tv):
  Calls Tryz.prog 166 #[.pointer (some ⟨sb,0,none⟩)] w (End w sb ao n cap f st k tv sv (name f n st a)):=by
 obtain⟨R,hR⟩:∃R,name f n st a=R:=⟨_,rfl⟩
 rw[hR]
 have HR:Hid (R=nmR f n st a 20 (a+0)):=by unfold Hid;rw[←hR];rfl
 have HS:Hid (Sc w sb ao n cap f (a+0) st k tv):=h
 have HF:Hid (∀i,0≤f i∧f i≤255):=h.ff
 have c1:=h.cells.2.1
 have hn:=h.nn
 have ha:=h.aa
 have hcc:=h.cc
 have hcm:=h.cm
 clear hR h
 go_enter Tryz.func166,Tryz.ntmps166
 go_wp2
 clear c1
 go_loopw[4](fun s wr=>∃(left size:Nat),size+left=20∧s=.int .i64 size∧Hid (R=nmR f n st a left (a+size))∧Hid (Sc wr sb ao n cap f (a+size) st k tv)∧Hid (Tn sb w wr))
  (fun s _=>20-(intOf s).toNat)
 case atStart=>exact⟨20,0,by omega,rfl,HR,HS,lin.Turns.refl _ _⟩
 case round=>
  obtain⟨left,size,hsz,rfl,HQ,HW,HT⟩:=hrel
  have O:=octet_any sb ao n cap f (a+size) st k tv wr HW.out
  obtain⟨o,ho⟩:∃o,octet f n (a+size)=o:=⟨_,rfl⟩
  rw[ho]at O
  have HQ2:Hid (R=o.bind fun c a'=>if c=62∧a<a+size then .ok (bytes f a (a+size)) a' else nmNext f n st a c (a+size) a' left):=(HQ.out.trans (nmR_go f n st a left (a+size))).trans (by rw[ho])
  have HC:Hid (∀c a2,o=.ok c a2→0≤c∧c≤255∧a2=a+size+1∧a+size<n):=fun c a2 e=>by
   rw[←ho]at e;unfold octet at e;split at e
   ·rename_i hl;cases e;exact⟨(HF.out _).1,(HF.out _).2,rfl,hl⟩
   ·cases e
  clear HQ ho HS HR
  go_wp2_with fail
  refine O.mono ?_
  intro e w1 H
  clear O
  cases o with
  |no q p=>
   obtain⟨rfl,⟨a',k',S1⟩,T1⟩:=H
   obtain rfl:R=.no q p:=HQ2.out
   have T2:=HT.out.trans T1
   go_wp2
   exact⟨rfl,rfl,⟨_,_,S1⟩,T2⟩
  |ok c a2=>
   obtain⟨rfl,S1,T1⟩:=H
   have T2:=HT.out.trans T1
   obtain⟨hc0,hc1,hc2,hc3⟩:=HC.out c a2 rfl
   subst hc2
   unfold iv
   clear HC HT HW T1
   have N:=none_any sb ao n cap f (a+size+1) st k tv w1 S1
   rcases(show(c=62∧0<size)∨(c=62∧size=0)∨¬c=62 from by omega)with⟨rfl,hsp⟩|⟨rfl,rfl⟩|hne
   ·have HR1:Hid (R=.ok (bytes f a (a+size)) (a+size+1)):=HQ2.out.trans (by rw[bind_ok,if_pos ⟨rfl,by omega⟩])
    clear HQ2 N
    have hs1:(0:Int)<(size:Int):=by omega
    obtain⟨a2,ha2⟩:∃a2,a+size+1=a2:=⟨_,rfl⟩
    rw[ha2]at S1
    obtain rfl:R=.ok (bytes f a (a2-1)) a2:=by rw[HR1.out,ha2,show a+size=a2-1 by omega]
    clear HR1
    obtain⟨d0,d1,d2,-⟩:=S1.cells
    obtain⟨b,off,rfl,hbn,-⟩:=S1.byt
    have CV:=S1.conv a (a2-1) (cap-a) (by omega) (by omega)
    have CVD:=S1.drew.conv a (a2-1) (cap-a) (by omega) (by omega)
    obtain⟨X,hX⟩:∃X,BA (bytes f a (a2-1))=X:=⟨_,rfl⟩
    rw[hX]at CV CVD
    have HX:Hid (BA (bytes f a (a2-1))=X):=hX
    clear hX
    have l1:(0:Int)≤(a:Int):=by omega
    have l2:(a:Int)≤(a2:Int)-1:=by omega
    have l3:(a2:Int)-1≤(cap:Int):=by omega
    have l4:(a:Int)<(cap:Int):=by omega
    have l5:¬cap=a:=by omega
    have l6:¬cap-a=0:=by omega
    have l9:IntKind.i64.wrap ((a2:Int)-1)=(a2:Int)-1:=by rw[IntKind.wrap_i64];omega
    have lA:((a2:Int)-1).toNat=a2-1:=by omega
    have lB:((a2:Int)-1-(a:Int)).toNat=a2-1-a:=by omega
    have HS1:Hid (Sc w1 sb (some ⟨b,off,none⟩) n cap f a2 st k tv):=S1
    have HT2:Hid (Tn sb w w1):=T2
    clear S1 T2 ha2
    go_wp2
    go_region_held3(fun w'=>w'.cell? ⟨sb,0,none⟩=some (.slice (some ⟨b,off,none⟩) n cap)∧w'.cell? ⟨sb,1,none⟩=some (.int .i64 a2)∧(convert 47 9 (.slice (some ⟨b,off+a,none⟩) (a2-1-a) (cap-a))).run Tryz.prog w'=.ok (.string X) w')(go_keep)(fail)
    go_wp2
    go_ret
    exact⟨by unfold sv;rw[HX.out];rfl,HS1.out.drew,Tn.drewN HT2.out 1⟩
   ·obtain rfl:left=20:=by omega
    obtain rfl:R=nope f st:=HQ2.out.trans (by rw[bind_ok,if_neg (by omega)];simp[nmNext,nmC,letterB,digitB])
    clear HQ2
    have L:=isLetter_any 62 w1
    rw[show letterB 62=false from by decide]at L
    go_wp2_with fail
    refine L.mono ?_
    rintro e w2⟨rfl,rfl⟩
    clear L
    go_wp2_with fail
    refine N.mono ?_
    rintro e w3⟨rfl,hbl⟩
    have S3:=S1.below hbl
    have T3:=Tn.beyond T2 hbl
    go_wp2
    exact⟨rfl,rfl,⟨_,_,S3⟩,T3⟩
   ·have m62:(c==62)=false:=by simp[hne]
    have HQ3:Hid (R=nmNext f n st a c (a+size) (a+size+1) left):=by unfold Hid;rw[HQ2.out,bind_ok,if_neg (fun h=>hne h.1)]
    clear HQ2 hne
    cases left with
    |zero=>
     obtain rfl:R=nope f st:=HQ3.out
     obtain rfl:size=20:=by omega
     clear HQ3
     go_wp2_with fail
     refine N.mono ?_
     rintro e w3⟨rfl,hbl⟩
     have S3:=S1.below hbl
     have T3:=Tn.beyond T2 hbl
     go_wp2
     exact⟨rfl,rfl,⟨_,_,S3⟩,T3⟩
    |succ l=>
     have hsn:¬((size:Int)=20):=by omega
     have hsn2:((size:Int)==20)=false:=by simp;omega
     have HQ4:Hid (R=if nmC c (decide (a+size=a))=true then nmR f n st a l (a+(size+1))else nope f st):=HQ3.out
     clear HQ3
     by_cases h95:c=95
     ·have HQ5:Hid (R=nmR f n st a l (a+(size+1))):=by unfold Hid;rw[HQ4.out,if_pos (by unfold nmC;simp[h95])]
      subst h95
      clear HQ4 N
      go_wp2
      refine⟨⟨l,size+1,by omega,by simp,HQ5,S1,T2⟩,?_⟩
      (first|simp[intOf]|simp[Go.RowKit.intOf]);omega
     ·have m95:(c !=95)=true:=by simp[h95]
      have m95b:(c==95)=false:=by simp[h95]
      have L:=isLetter_any c w1
      obtain⟨bl,hbl⟩:∃b,letterB c=b:=⟨_,rfl⟩
      rw[hbl]at L
      have HL:Hid (letterB c=bl):=hbl
      clear hbl h95
      have D:=isDigit_any c w1
      obtain⟨bd,hbd⟩:∃b,digitB c=b:=⟨_,rfl⟩
      rw[hbd]at D
      have HD:Hid (digitB c=bd):=hbd
      clear hbd
      go_wp2_with fail
      refine L.mono ?_
      rintro e w2⟨rfl,rfl⟩
      clear L
      cases bl with
      |true=>
       have HQ5:Hid (R=nmR f n st a l (a+(size+1))):=by unfold Hid;rw[HQ4.out,if_pos (by unfold nmC;simp[HL.out])]
       clear HQ4 N D
       go_wp2
       refine⟨⟨l,size+1,by omega,by simp,HQ5,S1,T2⟩,?_⟩
       (first|simp[intOf]|simp[Go.RowKit.intOf]);omega
      |false=>
       by_cases hz:size=0
       ·subst hz
        obtain rfl:R=nope f st:=by rw[HQ4.out,if_neg (by unfold nmC;simp[HL.out,m95b])]
        clear HQ4 D
        go_wp2_with fail
        refine N.mono ?_
        rintro e w3⟨rfl,hbl⟩
        have S3:=S1.below hbl
        have T3:=Tn.beyond T2 hbl
        go_wp2
        exact⟨rfl,rfl,⟨_,_,S3⟩,T3⟩
       ·have hz2:((size:Int)==0)=false:=by simp;omega
        have hz3:¬((size:Int)=0):=by omega
        go_wp2_with fail
        refine D.mono ?_
        rintro e w3⟨rfl,rfl⟩
        clear D
        cases bd with
        |true=>
         have HQ5:Hid (R=nmR f n st a l (a+(size+1))):=by unfold Hid;rw[HQ4.out,if_pos (by unfold nmC;simp[HL.out,HD.out,hz])]
         clear HQ4 N
         go_wp2
         refine⟨⟨l,size+1,by omega,by simp,HQ5,S1,T2⟩,?_⟩
         (first|simp[intOf]|simp[Go.RowKit.intOf]);omega
        |false=>
         obtain rfl:R=nope f st:=by rw[HQ4.out,if_neg (by unfold nmC;simp[HL.out,HD.out,m95b])]
         clear HQ4
         go_wp2_with fail
         refine N.mono ?_
         rintro e w4⟨rfl,hbl⟩
         have S3:=S1.below hbl
         have T3:=Tn.beyond T2 hbl
         go_wp2
         exact⟨rfl,rfl,⟨_,_,S3⟩,T3⟩
end Go.Proofs.YtbbeciofgnkggaaGreatDoor.tok
