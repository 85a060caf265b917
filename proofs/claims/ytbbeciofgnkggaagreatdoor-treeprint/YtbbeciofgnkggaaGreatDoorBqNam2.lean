import Derived.Test.YtbbeciofgnkggaaGreatDoorBqLin1
import Derived.Test.YtbbeciofgnkggaaGreatDoorBqNam1
import Derived.Test.YtbbeciofgnkggaaGreatDoorBqLin4
import Derived.Deep.RegionHeld3
import Derived.Test.YtbbeciofgnkggaaGreatDoorBqLin2
import Derived.Deep.RegionHeld
import Derived.Lib.AppendStr
import Derived.Lib.AsciiSet
import Derived.Lib.Builder
import Derived.Lib.FrozenHead
import Derived.OrdersIn
import Derived.Test.YtbbeciofgnkggaaGreatDoorBqLin3
import Derived.Deep.QuietTactic
import Derived.BigQuiet
set_option linter.unusedSimpArgs false
set_option linter.unusedVariables false
set_option maxRecDepth 100000
set_option maxHeartbeats 2000000
namespace Go.Proofs.YtbbeciofgnkggaaGreatDoor.nam
open Go.RowKit Go.Shelf lin
attribute [local go_sem] Oper.semAt_some
theorem backs_len(vs:List Value):(backs vs).length=vs.length:=by unfold backs;simp
theorem backs_at(vs:List Value){pre rest:List Elt}{x:Elt}(h:backs vs=pre++x::rest):x.1+pre.length+1=vs.length∧vs[x.1]?=some x.2:=by
 have h1:(backs vs)[pre.length]?=some x:=by rw[h];simp
 have hl:pre.length<vs.length:=by
  have:=congrArg List.length h
  rw[backs_len,List.length_append,List.length_cons]at this
  omega
 unfold backs at h1
 rw[List.getElem?_reverse (by simpa using hl)]at h1
 simp only[List.length_map,List.length_zipIdx,List.getElem?_map,List.getElem?_zipIdx]at h1
 have hj:vs.length-1-pre.length<vs.length:=by omega
 rw[List.getElem?_eq_getElem hj]at h1
 simp at h1
 subst h1
 exact⟨by simp;omega,by simp[List.getElem?_eq_getElem hj]⟩
theorem two(w:World)(A0 A1:Obj){W:World}(hW:W=(w.alloc A0).alloc A1):W.heap.size=w.heap.size+2∧Below w.heap.size w W∧W.heap[w.heap.size]?=some A0∧W.heap[w.heap.size+1]?=some A1:=by
 subst hW
 refine⟨by simp,((Below.refl _ w).alloc (Nat.le_refl _) _).alloc (by simp) _,?_,?_⟩
 ·exact(Below.heap_alloc _ A1 _ (by simp)).trans (World.alloc_heap_new w A0)
 ·have:=World.alloc_heap_new (w.alloc A0) A1;rwa[World.size_alloc]at this
theorem turns_cell{D:Nat→Prop}{A B:World}(t:Turns D A B){p:Addr}{v:Value}(h:A.cell? p=some v)(hd:¬D p.block):B.cell? p=some v:=by
 have:=t.block p.block (World.block_lt_of_cell? A p h) hd
 unfold World.cell? at h⊢
 rw[this]
 exact h
/--Between two rounds: w0 the world at the beginning, w1 that at the range. -/
structure FI(w0 w1:World)(pre:List Elt)(W:World):Prop where
 box:Boxed W (w0.heap.size+1) 168 (.map (some w0.heap.size))
 map:Mp Tryz.prog 175 ek okk W w0.heap.size (2*pre.length) (tab (rowsL.drop (rowsL.length-pre.length)))
 keep:Keep (w0.heap.size+2) (w1.heap.size-1) w1 W
 low:Below w0.heap.size w0 W
theorem FI.turns{w0 w1:World}{pre:List Elt}{A B:World}{D:Nat→Prop}(h:FI w0 w1 pre A)(hs:w1.heap.size≤A.heap.size)(t:Turns D A B)(hd:∀k,D k→w1.heap.size-1≤k∧w0.heap.size+2≤k):FI w0 w1 pre B where
 box:=t.boxed h.box (fun d=>by have:=hd _ d;omega)
 map:=h.map.turns t (fun d=>by have:=hd _ d;omega)
 keep:=fun k h1 h2=>(t.block k (by omega) (fun d=>by have:=hd _ d;omega)).trans (h.keep k h1 h2)
 low:=h.low.trans (t.below h.low.size (fun k d=>by have:=hd k d;omega))
theorem file_any(w:World):
  Calls Tryz.prog 160 #[] w fun e w'=>∃b,e=.returned (.map (some b))∧w.heap.size≤b∧Mp Tryz.prog 175 ek okk w' b 1000 (tab rowsL)∧Below w.heap.size w w':=by
 refine callsIn_wide (n:=9)|>.1 ?_
 refine callsIn_of_wp_marks Tryz.func160 rfl trivial ?_ rfl
 simp only[Tryz.ntmps160,List.size_toArray,List.length_cons,List.length_nil,Nat.reduceAdd,Nat.reduceSub,Array.replicate_succ,Array.replicate_zero,List.push_toArray,List.append_toArray,List.nil_append,List.cons_append]
 have hmm:=@run_makeMap Tryz.prog
 gi_wp2
 refine⟨trivial,(callsIn_wide.2 (aliases_any _)).mono ?_⟩
 rintro e w0⟨rfl,hw0⟩
 rw[hw0]
 clear hw0 hmm
 have MM:Mp Tryz.prog 175 ek okk (w.alloc (.map #[] 0)) w.heap.size 0 (fun _=>none):=Mp.made w
 have al0:=MM.below ((Below.refl _ _).alloc (Nat.le_refl _) (.cells #[.map (some w.heap.size)] 168))
 obtain⟨W0,hW0⟩:∃W0,W0=(w.alloc (.map #[] 0)).alloc (.cells #[.map (some w.heap.size)] 168):=⟨_,rfl⟩
 obtain⟨z0,b0,m0,m1⟩:=two w _ _ hW0
 rw[←hW0]at al0⊢
 clear MM hW0
 gi_wp2
 refine⟨trivial,(callsIn_wide.2 (rows_any aliasB W0 (Nat.le_trans alias_n (by decide)))).mono ?_⟩
 rintro e w1⟨v,rfl,hrows,b1⟩
 obtain⟨g,cap,vs,hfile⟩:=file_at hrows
 clear hrows
 have hb1s:=b1.size
 obtain rfl:=hfile.val
 have al1:=al0.below b1
 have bx1:Boxed w1 (w.heap.size+1) 168 (.map (some w.heap.size)):=(b1.block _ (by omega)).trans m1
 have lo1:Below w.heap.size w w1:=b0.trans (b1.mono (by omega))
 clear al0 m0 m1 b0 b1
 have hvl:vs.length≤51:=by rw[hfile.len,rows_n];exact Nat.le_refl _
 gi_wp2
 refine⟨trivial,(callsIn_wide.2 (Backward_any _ _ _ _)).mono ?_⟩
 rintro e w2⟨rfl,hw2⟩
 have z2:w2.heap.size=w1.heap.size+1:=by rw[hw2];simp
 have bel2:Below w1.heap.size w1 w2:=by rw[hw2];exact(Below.refl _ _).alloc (Nat.le_refl _) _
 have nb:w2.heap[w1.heap.size]?=some (.cells #[.slice (some ⟨g,0,none⟩) vs.length cap] 118 (0,0)):=by rw[hw2];exact World.alloc_heap_new _ _
 clear hw2
 have al2:=al1.below bel2
 have bx2:Boxed w2 (w.heap.size+1) 168 (.map (some w.heap.size)):=(bel2.block _ (by omega)).trans bx1
 have lo2:Below w.heap.size w w2:=lo1.trans (bel2.mono (by omega))
 have hrev:Rev w2 w1.heap.size g 0 cap vs:=⟨nb,fun i h=>(bel2.cell (p:=⟨g,0+i,none⟩) hfile.lt).trans (hfile.cell i h)⟩
 have hsl:∀v∈vs,∃a m k,v=.slice a m k:=fun v hv=>by
  obtain⟨i,hi,rfl⟩:=List.getElem_of_mem hv
  obtain⟨fg,fo,fc,he,_⟩:=hfile.row i vs[i] (rowsL[i]'(by rw[←hfile.len];exact hi)) (List.getElem?_eq_getElem hi) (List.getElem?_eq_getElem _)
  exact⟨_,_,_,he⟩
 have low:=hfile.low
 clear al1 bx1 lo1
 gi_wp2
 refine range_own (c:=w1.heap.size) (lo:=w.heap.size+2) rfl (enters_of Tryz.func175 (by kernel_rfl) rfl) (by omega) (by omega) (back_gives _ w1.heap.size g 0 cap (w.heap.size+2) vs w2 (by omega) hrev (by omega) (by omega) hsl) (fun _=>rfl)
  (fun pre W=>FI w w2 pre W∧w2.heap.size≤W.heap.size) (fun _ _=>False) (fun _ A B h t=>⟨h.1.turns h.2 t (fun k d=>by omega),Nat.le_trans h.2 t.size⟩) (fun _ A B h t=>h)
  ⟨⟨bx2,by rw[show rowsL.drop (rowsL.length-([]:List Elt).length)=[]from by simp];exact al2,fun k _ _=>rfl,lo2⟩,Nat.le_refl _⟩
  (fun x=>{tmps:=#[.map none,.pointer (some ⟨w.heap.size+1,0,none⟩),undef,x.2,undef,undef,.map (some w.heap.size),.string aliasB,.slice (some ⟨g,0,none⟩) vs.length cap,
   .func (.func 175) #[] #[.pointer (some ⟨w1.heap.size,0,none⟩)],.int .i64 x.1,x.2,undef,undef,undef,undef,undef,undef,undef,undef,undef,undef,undef,undef,undef,undef,undef,undef,undef,undef,undef,undef,undef,undef,undef,undef,undef,undef,undef,undef],defers:=[]}) ?assign ?body ?done ?stop
 case assign=>
  intro l x W K hK
  obtain⟨xi,xv⟩:=x
  simp only[encB]at hK⊢
  gi_wp2
  exact hK
 case body=>
  intro l pre x rest W hx hI hge
  obtain⟨⟨hbox,hmap,hkeep,hlow⟩,hsz⟩:=hI
  obtain⟨hi1,hi2⟩:=backs_at vs hx
  obtain⟨xi,xv⟩:=x
  simp only at hi1 hi2
  have hrl:xi<rowsL.length:=by rw[←hfile.len];exact(List.getElem?_eq_some_iff.1 hi2).1
  obtain⟨r,hr⟩:∃r,rowsL[xi]?=some r:=⟨_,List.getElem?_eq_getElem hrl⟩
  obtain⟨fg,fo,fc,rfl,hfl,hflt,f0,f1,f2⟩:=hfile.row xi xv r hi2 hr
  have ck:∀o,W.cell? ⟨fg,o,none⟩=w1.cell? ⟨fg,o,none⟩:=fun o=>(cell_keep hkeep (by omega) (by omega)).trans (bel2.cell (p:=⟨fg,o,none⟩) hflt)
  have d0:=(ck fo).trans f0
  have d1:=(ck (fo+1)).trans f1
  have d2:=(ck (fo+1+1)).trans f2
  have HTB:Hid (tab (rowsL.drop (rowsL.length-(pre.length+1)))=upd (upd (tab (rowsL.drop (rowsL.length-pre.length))) (BA r.1,BA (looseL r.2.1)) (al r)) (BA r.1,BA (looseL r.2.2)) (al r)):=by
   have e1:rowsL.length-(pre.length+1)=xi:=by have:=hfile.len;omega
   have e2:rowsL.length-pre.length=xi+1:=by have:=hfile.len;omega
   rw[Hid,e1,e2,List.drop_eq_getElem_cons hrl,(List.getElem?_eq_some_iff.1 hr).2]
   rfl
  have hsm:=rows_small r (List.mem_of_getElem? hr)
  have cb:=hbox.cell
  obtain⟨r0,r1,r2⟩:=r
  simp only at d0 d1 d2 HTB hsm
  clear ck f0 f1 f2
  gi_wp2
  refine wpIn_mono (Q:=NoPanic _) ?_ NoPanic.imp
  refine wpIn_region_round (S:=fun w'=>w'.cell? ⟨fg,fo,none⟩=some (.string (BA r0))∧w'.cell? ⟨fg,fo+1,none⟩=some (.string (BA r1))∧w'.cell? ⟨fg,fo+1+1,none⟩=some (.string (BA r2))) (by kernel_rfl) (by kernel_rfl) (by rintro⟨a,u,h⟩;exact h) ?_ (fun hHeld=>?_)
  ·((try dsimp only);go_keep)
  refine lin.tH 0 (v:=?_) ?_
  try simp only[Act.put,lin.sm]
  refine lin.tH 1 (v:=?_) ?_
  try simp only[Act.put,lin.sm]
  refine lin.tH 2 (v:=?_) ?_
  try simp only[Act.put,lin.sm]
  refine lin.tH 3 (v:=?_) ?_
  try simp only[Act.put,lin.sm]
  refine lin.tH 4 (v:=?_) ?_
  try simp only[Act.put,lin.sm]
  refine lin.tH 5 (v:=?_) ?_
  try simp only[Act.put,lin.sm]
  refine lin.tH 6 (v:=?_) ?_
  try simp only[Act.put,lin.sm]
  refine lin.tH 7 (v:=?_) ?_
  try simp only[Act.put,lin.sm]
  refine lin.tH 8 (v:=?_) ?_
  try simp only[Act.put,lin.sm]
  refine lin.tH 9 (v:=?_) ?_
  try simp only[Act.put,lin.sm]
  refine wpAnyH_ready (rs:=[10]) (by kernel_rfl) (by simp) ?_
  refine AllReadyH.cons rfl (fun K hK=>?_) AllReadyH.nil
  go_simp
  refine hK.out _ _ ?_ (fun hHeld=>?_)
  ·((try dsimp only);go_keep)
  clear hK K
  try simp only[Act.put,lin.sm]
  refine lin.tH 11 (v:=?_) ?_
  try simp only[Act.put,lin.sm]
  refine wpAnyH_ready (rs:=[12]) (by kernel_rfl) (by simp) ?_
  refine AllReadyH.cons rfl (fun K hK=>?_) AllReadyH.nil
  go_simp
  refine hK.out _ _ ?_ (fun hHeld=>?_)
  ·((try dsimp only);go_keep)
  clear hK K
  try simp only[Act.put,lin.sm]
  refine wpAnyH_done (by kernel_rfl) ?_ _
  refine NoPanic.normal ?_
  gi_wp2
  obtain⟨W5,hW5⟩:∃W5,W5=(W.alloc (.cells #[.string (BA r1),.string (BA r2)] 172)).drew:=⟨_,rfl⟩
  rw[←hW5]
  have t5:Turns (fun k=>k=w.heap.size) W W5:=by rw[hW5];exact((Turns.refl _ W).alloc _).drew
  have z5:W5.heap.size=W.heap.size+1:=by rw[hW5];simp
  have nb5:W5.heap[W.heap.size]?=some (.cells #[.string (BA r1),.string (BA r2)] 172 (0,0)):=by rw[hW5];exact World.alloc_heap_new W _
  have mp5:Mp Tryz.prog 175 ek okk W5 w.heap.size (2*pre.length) (tab (rowsL.drop (rowsL.length-pre.length))):=hmap.below (by rw[hW5];exact((Below.refl _ W).alloc (Nat.le_refl _) _).drew)
  have e0W5:W5.cell? ⟨W.heap.size,0,none⟩=some (.string (BA r1)):=cell_of_row _ _ 0 _ _ _ nb5
  have e1W5:W5.cell? ⟨W.heap.size,1,none⟩=some (.string (BA r2)):=cell_of_row _ _ 1 _ _ _ nb5
  have bx5:Boxed W5 (w.heap.size+1) 168 (.map (some w.heap.size)):=t5.boxed hbox (by omega)
  have cbW5:=bx5.cell
  clear hW5 cb d0 d1 d2 hHeld hmap
  refine wpIn_mono (Q:=NoPanic _) ?_ NoPanic.imp
  refine wpIn_region_round (S:=fun w'=>w'.cell? ⟨w.heap.size+1,0,none⟩=some (.map (some w.heap.size))∧w'.cell? ⟨W.heap.size,0,none⟩=some (.string (BA r1))∧w'.cell? ⟨W.heap.size,1,none⟩=some (.string (BA r2))) (by kernel_rfl) (by kernel_rfl) (by rintro⟨a,u,h⟩;exact h) ?_ (fun hHeld=>?_)
  ·((try dsimp only);go_keep)
  refine lin.tH 0 (v:=?_) ?_
  try simp only[Act.put,lin.sm]
  refine lin.tH 1 (v:=?_) ?_
  try simp only[Act.put,lin.sm]
  refine lin.tH 2 (v:=?_) ?_
  try simp only[Act.put,lin.sm]
  refine lin.tH 3 (v:=?_) ?_
  try simp only[Act.put,lin.sm]
  refine lin.tH 6 (v:=?_) ?_
  try simp only[Act.put,lin.sm]
  refine wpAnyH_ready (rs:=[4]) (by kernel_rfl) (by simp) ?_
  refine AllReadyH.cons rfl (fun K hK=>?_) AllReadyH.nil
  go_simp
  refine(loose_any (BA r1) _ (by rw[BA_size];omega)).mono ?_
  rintro e w6a⟨rfl,hbw6a⟩
  have tw6a:Turns (fun k=>k=w.heap.size) W5 w6a:=((Turns.refl _ W5).drew).trans (.of_below hbw6a)
  have mpw6a:=mp5.below (w':=w6a) ⟨hbw6a.os,hbw6a.tape,hbw6a.output,hbw6a.size,hbw6a.block⟩
  have x0w6a:=turns_cell tw6a e0W5 (by show¬W.heap.size=_;omega)
  have x1w6a:=turns_cell tw6a e1W5 (by show¬W.heap.size=_;omega)
  have xbw6a:=turns_cell tw6a cbW5 (by show¬w.heap.size+1=_;omega)
  have hszw6a:=tw6a.size
  clear hHeld hbw6a
  refine hK.out _ _ ?_ (fun hHeld=>?_)
  ·exact⟨xbw6a,x0w6a,x1w6a⟩
  clear hK K
  try simp only[Act.put,lin.sm]
  refine lin.tH 5 (v:=?_) ?_
  try simp only[Act.put,lin.sm]
  refine wpAnyH_ready (rs:=[7]) (by kernel_rfl) (by simp) ?_
  refine AllReadyH.cons rfl (fun K hK=>?_) AllReadyH.nil
  obtain⟨w6b,hrunw6b,mpw6b,htw6b⟩:=mpw6a.put keyE Tryz.underlying168 (by unfold maxLen;omega) (x:=(BA r0,BA (looseL r1))) ⟨by rw[BA_size];unfold maxLen;omega,by have:=looseL_len r1;rw[BA_size];unfold maxLen;omega⟩ (al (r0,r1,r2))
  simp only[ek,al]at hrunw6b
  rw[BA_data]at*
  go_simp
  have tw6b:Turns (fun k=>k=w.heap.size) W5 w6b:=tw6a.trans (.of_grown htw6b.grown (fun k e=>by cases e;rfl))
  have e0w6b:=turns_cell tw6b e0W5 (by show¬W.heap.size=_;omega)
  have e1w6b:=turns_cell tw6b e1W5 (by show¬W.heap.size=_;omega)
  have cbw6b:=turns_cell tw6b cbW5 (by show¬w.heap.size+1=_;omega)
  refine hK.out _ _ ?_ (fun hHeld=>?_)
  ·exact⟨cbw6b,e0w6b,e1w6b⟩
  clear hK K
  try simp only[Act.put,lin.sm]
  refine wpAnyH_done (by kernel_rfl) ?_ _
  refine NoPanic.normal ?_
  gi_wp2
  clear hHeld
  refine wpIn_mono (Q:=NoPanic _) ?_ NoPanic.imp
  refine wpIn_region_round (S:=fun w'=>w'.cell? ⟨w.heap.size+1,0,none⟩=some (.map (some w.heap.size))∧w'.cell? ⟨W.heap.size,0,none⟩=some (.string (BA r1))∧w'.cell? ⟨W.heap.size,1,none⟩=some (.string (BA r2))) (by kernel_rfl) (by kernel_rfl) (by rintro⟨a,u,h⟩;exact h) ?_ (fun hHeld=>?_)
  ·((try dsimp only);go_keep)
  refine lin.tH 0 (v:=?_) ?_
  try simp only[Act.put,lin.sm]
  refine lin.tH 1 (v:=?_) ?_
  try simp only[Act.put,lin.sm]
  refine lin.tH 2 (v:=?_) ?_
  try simp only[Act.put,lin.sm]
  refine lin.tH 3 (v:=?_) ?_
  try simp only[Act.put,lin.sm]
  refine lin.tH 6 (v:=?_) ?_
  try simp only[Act.put,lin.sm]
  refine wpAnyH_ready (rs:=[4]) (by kernel_rfl) (by simp) ?_
  refine AllReadyH.cons rfl (fun K hK=>?_) AllReadyH.nil
  go_simp
  refine(loose_any (BA r2) _ (by rw[BA_size];omega)).mono ?_
  rintro e w8a⟨rfl,hbw8a⟩
  have tw8a:Turns (fun k=>k=w.heap.size) w6b w8a:=((Turns.refl _ w6b).drew).trans (.of_below hbw8a)
  have mpw8a:=mpw6b.below (w':=w8a) ⟨hbw8a.os,hbw8a.tape,hbw8a.output,hbw8a.size,hbw8a.block⟩
  have x0w8a:=turns_cell tw8a e0w6b (by show¬W.heap.size=_;omega)
  have x1w8a:=turns_cell tw8a e1w6b (by show¬W.heap.size=_;omega)
  have xbw8a:=turns_cell tw8a cbw6b (by show¬w.heap.size+1=_;omega)
  have hszw8a:=tw8a.size
  clear hHeld hbw8a
  refine hK.out _ _ ?_ (fun hHeld=>?_)
  ·exact⟨xbw8a,x0w8a,x1w8a⟩
  clear hK K
  try simp only[Act.put,lin.sm]
  refine lin.tH 5 (v:=?_) ?_
  try simp only[Act.put,lin.sm]
  refine wpAnyH_ready (rs:=[7]) (by kernel_rfl) (by simp) ?_
  refine AllReadyH.cons rfl (fun K hK=>?_) AllReadyH.nil
  obtain⟨w8b,hrunw8b,mpw8b,htw8b⟩:=mpw8a.put keyE Tryz.underlying168 (by unfold maxLen;omega) (x:=(BA r0,BA (looseL r2))) ⟨by rw[BA_size];unfold maxLen;omega,by have:=looseL_len r2;rw[BA_size];unfold maxLen;omega⟩ (al (r0,r1,r2))
  simp only[ek,al]at hrunw8b
  rw[BA_data]at*
  go_simp
  have tw8b:Turns (fun k=>k=w.heap.size) w6b w8b:=tw8a.trans (.of_grown htw8b.grown (fun k e=>by cases e;rfl))
  have e0w8b:=turns_cell tw8b e0w6b (by show¬W.heap.size=_;omega)
  have e1w8b:=turns_cell tw8b e1w6b (by show¬W.heap.size=_;omega)
  have cbw8b:=turns_cell tw8b cbw6b (by show¬w.heap.size+1=_;omega)
  refine hK.out _ _ ?_ (fun hHeld=>?_)
  ·exact⟨cbw8b,e0w8b,e1w8b⟩
  clear hK K
  try simp only[Act.put,lin.sm]
  refine wpAnyH_done (by kernel_rfl) ?_ _
  refine NoPanic.normal ?_
  have tA:=t5.trans (tw6b.trans tw8b)
  have szA:=tA.size
  have HG:Hid (Keep (w.heap.size+2) (w2.heap.size+2) W w8b∧FI w w2 (pre++[(xi,.slice (some ⟨fg,fo,none⟩) 3 fc)]) w8b∧w2.heap.size≤w8b.heap.size):=by
   refine⟨tA.keep hge (fun k h=>.inl (by omega)),⟨tA.boxed hbox (by omega),?_,fun k h1 h2=>(tA.block k (by omega) (by omega)).trans (hkeep k h1 h2),hlow.trans (tA.below hlow.size (fun k h=>by omega))⟩,by omega⟩
   rw[List.length_append,List.length_singleton,HTB.out]
   exact mpw8b.mono (by omega)
  gi_wp2
  exact HG.out
 case done=>
  intro W hI hd
  have hc:=hI.1.box.cell
  have HT:Hid (∀W',Turns (fun k=>k=w2.heap.size) W W'→w.heap.size≤w.heap.size∧Mp Tryz.prog 175 ek okk W' w.heap.size 1000 (tab rowsL)∧Below w.heap.size w W'):=fun W' t=>by
   refine⟨Nat.le_refl _,?_,hI.1.low.trans (t.below hI.1.low.size (fun k d=>by omega))⟩
   have:=(hI.1.map.turns t (by omega)).mono (n':=1000) (by rw[backs_len];omega)
   rw[show rowsL.drop (rowsL.length-(backs vs).length)=rowsL from by rw[backs_len,hfile.len];simp]at this
   exact this
  clear hI
  gi_wp2
  refine⟨by simp,.inl ⟨_,_,rfl,run_takeDeferred hd,?_⟩⟩
  exact⟨_,results_tmp (t:=0) rfl _ _ _,_,rfl,HT.out _ (Turns.put (D:=fun k=>k=w2.heap.size) (Turns.refl _ W) w2.heap.size _ rfl)⟩
 case stop=>
  intro pre W hI hd
  exact hI.elim
end Go.Proofs.YtbbeciofgnkggaaGreatDoor.nam
namespace Go.Proofs.YtbbeciofgnkggaaGreatDoor.nam
open Go.RowKit lin
theorem beqT2{k L:List UInt8}(h:k=L):((BA k).toList==(BA L).toList)=true:=by rw[h];exact beq_self_eq_true _
theorem beqF2{k L:List UInt8}(h:¬k=L):((BA k).toList==(BA L).toList)=false:=by rw[beq_eq_false_iff_ne,Lib.toList_data,Lib.toList_data,BA_data,BA_data];exact h
theorem BA_app(a b:List UInt8):BA a++BA b=BA (a++b):=by
 apply ByteArray.ext
 show(BA a++BA b).data=_
 rw[ByteArray.data_append]
 simp[BA]
theorem ext_one(s:ByteArray)(k:Nat)(h:k<s.size):s.extract k (k+1)=BA [s[k]'h]:=by
 rw[ext_list,drop_cons s k h]
 simp
end Go.Proofs.YtbbeciofgnkggaaGreatDoor.nam
namespace Go.Proofs.YtbbeciofgnkggaaGreatDoor.nam
open Go.RowKit lin
theorem conv_one(wr:World)(y:Int)(x:Nat)(h:y=x):(convert 47 9 (.slice (some ⟨wr.heap.size,0,none⟩) 1 1)).run Tryz.prog (wr.alloc (.cells #[.int .u8 y] 5))=.ok (.string (BA [UInt8.ofNat x])) (wr.alloc (.cells #[.int .u8 y] 5)):=by
 have hc:∀i,i<1→(wr.alloc (.cells #[.int .u8 y] 5)).cell? ⟨wr.heap.size,0+i,none⟩=some (.int .u8 (([y]:List Int).getD i 0)):=fun i hi=>by
  obtain rfl:i=0:=by omega
  exact cell_one_new wr (.int .u8 y) 5 0 _ rfl
 have:=run_convert_bytes_arg (P:=Tryz.prog) (wr.alloc (.cells #[.int .u8 y] 5)) 47 5 Tryz.underlying47 Tryz.underlying5 wr.heap.size 0 1 1 [y] rfl hc 9 Tryz.underlying9
 rw[this,h]
 rfl
theorem rloose_any(s:ByteArray)(w:World)(hs:s.size≤140737488355327):
  Calls Tryz.prog 102 #[.string s] w fun e w'=>e=.returned (.string (BA (looseL s.data.toList)))∧Below w.heap.size w w':=by
 have HNX:Hid (∀k(h:k<s.size),s.data.toList.take (k+1)=s.data.toList.take k++[s[k]'h]):=take_next s
 have HLN:Hid (∀k,k≤s.size→(sift (s.data.toList.take k)).length≤k):=fun k hk=>Nat.le_trans (sift_len _) (by rw[List.length_take];omega)
 have HALL:Hid (s.data.toList.take s.size=s.data.toList):=List.take_of_length_le (by simp)
 go_enter Tryz.func102,Tryz.ntmps102
 go_wp2
 go_loopw[3,4](fun o i wr=>∃k:Nat,k≤s.size∧i=.int .i64 k∧o=.string (BA (sift (s.data.toList.take k)))∧Below w.heap.size w wr)(fun _ i _=>s.size-(RowKit.intOf i).toNat)
 case atStart=>exact⟨0,Nat.zero_le _,rfl,rfl,Below.refl _ w⟩
 case round=>
  obtain⟨k,hk,rfl,rfl,hbel⟩:=hrel
  by_cases hlt:k<s.size
  ·have hlt':(k:Int)<(s.size:Int):=by omega
   have hl:=HLN.out k hk
   have htk:=HNX.out k hlt
   have hbs:=hbel.size
   have hlo:=low_not (s[k]'hlt)
   have hgr:=low_great (s[k]'hlt)
   have hel:=low_else (s[k]'hlt)
   have h256:(s[k]'hlt).toNat<256:=UInt8.toNat_lt _
   have HSN:Hid (sift (s.data.toList.take (k+1))=sift (s.data.toList.take k)++low (s[k]'hlt)):=by rw[Hid,htk,sift_snoc]
   have HEX:Hid (s.extract k (k+1)=BA [s[k]'hlt]):=ext_one s k hlt
   clear htk
   have HC:Hid (∃c:UInt8,(s[k]'hlt)=c):=⟨_,rfl⟩
   obtain⟨c,hc⟩:=HC.out
   clear HC
   have hr0:((s[k]'hlt).toNat:Int)=(c.toNat:Int):=by rw[hc]
   rw[hc]at hlo hgr hel h256 HSN HEX
   clear hc
   generalize hT:sift (s.data.toList.take k)=T at*
   have hbsz:(BA T).size=T.length:=rfl
   by_cases h1:c.toNat=32∨c.toNat=45∨c.toNat=95
   ·have HN:Hid (T=sift (s.data.toList.take (k+1))):=by rw[Hid,HSN.out,hlo h1,List.append_nil]
    clear hlo hgr hel HSN HEX
    have h1':(c.toNat:Int)=32∨(c.toNat:Int)=45∨(c.toNat:Int)=95:=by omega
    clear h1 h256
    generalize hr:(c.toNat:Int)=r at*
    clear hr
    cases t1:(r==32)with
    |true=>
     clear h1'
     go_wp2
     exact⟨⟨k+1,by omega,by go_num,by rw[←HN.out],hbel⟩,by simp[Go.RowKit.intOf];omega⟩
    |false=>
     cases t2:(r==45)with
     |true=>
      clear h1'
      go_wp2
      exact⟨⟨k+1,by omega,by go_num,by rw[←HN.out],hbel⟩,by simp[Go.RowKit.intOf];omega⟩
     |false=>
      have t3:(r==95)=true:=by simp at t1 t2⊢;omega
      clear h1'
      go_wp2
      exact⟨⟨k+1,by omega,by go_num,by rw[←HN.out],hbel⟩,by simp[Go.RowKit.intOf];omega⟩
   ·have t1:((c.toNat:Int)==32)=false:=by simp;omega
    have t2:((c.toNat:Int)==45)=false:=by simp;omega
    have t3:((c.toNat:Int)==95)=false:=by simp;omega
    by_cases h2:65≤c.toNat∧c.toNat≤90
    ·have HN:Hid (BA T++BA [UInt8.ofNat (c.toNat+32)]=BA (sift (s.data.toList.take (k+1)))):=by
      rw[Hid,HSN.out,hgr h2.1 h2.2 h1,BA_app]
     clear hlo hgr hel HSN HEX h1
     have h3':(65:Int)≤(c.toNat:Int):=by omega
     have h4':(c.toNat:Int)≤90:=by omega
     have h5':c.toNat+32<256:=by omega
     clear h2 h256
     have HCC:Hid (((c.toNat:Int)+32).toNat=c.toNat+32):=by unfold Hid;omega
     have e2:IntKind.u8.wrap ((c.toNat:Int)+32)=(c.toNat:Int)+32:=by simp[IntKind.wrap,IntKind.signed,IntKind.bits];omega
     have CV:=conv_one wr ((c.toNat:Int)+32) (c.toNat+32) (by omega)
     have hcz:(BA [UInt8.ofNat (c.toNat+32)]).size=1:=rfl
     generalize BA [UInt8.ofNat (c.toNat+32)]=X at*
     go_wp2
     exact⟨⟨k+1,by omega,by go_num,by rw[←HN.out],hbel.alloc hbs _⟩,by simp[Go.RowKit.intOf];omega⟩
    ·have HN:Hid (BA T++s.extract k (k+1)=BA (sift (s.data.toList.take (k+1)))):=by
      rw[Hid,HSN.out,hel h2 h1,HEX.out,BA_app]
     have hez:(s.extract k (k+1)).size=1:=by rw[HEX.out];rfl
     clear hlo hgr hel HSN h1
     have h2':¬((65:Int)≤(c.toNat:Int)∧(c.toNat:Int)≤90):=by omega
     clear h2 h256 HEX
     generalize hr:(c.toNat:Int)=r at*
     clear hr
     by_cases h3:65≤r
     ·have h4':¬r≤90:=by omega
      clear h2'
      go_wp2
      exact⟨⟨k+1,by omega,by go_num,by rw[←HN.out],hbel⟩,by simp[Go.RowKit.intOf];omega⟩
     ·clear h2'
      go_wp2
      exact⟨⟨k+1,by omega,by go_num,by rw[←HN.out],hbel⟩,by simp[Go.RowKit.intOf];omega⟩
  ·have hge:¬(k:Int)<(s.size:Int):=by omega
   obtain rfl:k=s.size:=by omega
   rw[HALL.out]
   have HLO:Hid (looseL s.data.toList=strip (sift s.data.toList)):=rfl
   have hl:=HLN.out s.size (Nat.le_refl _)
   rw[HALL.out]at hl
   generalize sift s.data.toList=T at*
   have hbsz:(BA T).size=T.length:=rfl
   have hx2:(BA T).extract 0 2=BA (T.take 2):=by rw[ext_list];rfl
   have hx3:(BA T).extract 2 T.length=BA (T.drop 2):=by
    rw[ext_list]
    show BA ((T.drop 2).take _)=_
    rw[List.take_of_length_le (by simp)]
   by_cases h2:2<T.length
   ·have h2':(2:Int)<(T.length:Int):=by omega
    by_cases h3:T.take 2=[105,115]
    ·have t1:((BA (T.take 2)).toList==[105,115])=true:=by rw[Lib.toList_data,BA_data,h3];rfl
     have HE:Hid (looseL s.data.toList=T.drop 2):=by rw[Hid,HLO.out,strip,if_pos ⟨h2,h3⟩]
     clear h3 HLO
     go_wp2
     go_ret
     exact⟨by rw[HE.out];rfl,hbel⟩
    ·have t1:((BA (T.take 2)).toList==[105,115])=false:=by
      rw[beq_eq_false_iff_ne,Lib.toList_data,BA_data]
      exact h3
     have HE:Hid (looseL s.data.toList=T):=by rw[Hid,HLO.out,strip,if_neg (fun h=>h3 h.2)]
     clear h3 HLO
     go_wp2
     go_ret
     exact⟨by rw[HE.out];rfl,hbel⟩
   ·have h2':¬(2:Int)<(T.length:Int):=by omega
    have HE:Hid (looseL s.data.toList=T):=by rw[Hid,HLO.out,strip,if_neg (fun h=>h2 h.1)]
    clear HLO
    go_wp2
    go_ret
    exact⟨by rw[HE.out];rfl,hbel⟩
end Go.Proofs.YtbbeciofgnkggaaGreatDoor.nam
namespace Go.Proofs.YtbbeciofgnkggaaGreatDoor.nam
open Go.RowKit lin
abbrev Nm(w:World)(b:Nat):Prop:=Mp Tryz.prog 175 ek okk w b 1000 (tab rowsL)
theorem zeroA(w:World):(zeroValue 172).run Tryz.prog w=.ok (.agg #[.string ⟨#[]⟩,.string ⟨#[]⟩]) w:=by kernel_rfl
theorem look_some{w:World}{b:Nat}(h:Nm w b){k l:List UInt8}{r:R3}(hk:k.length≤281474976710656)(hl:l.length≤281474976710656)(hr:lookL (k,l)=some r):
  (Instr.lookup 168 (.map (some b)) (.agg #[.string (BA k),.string (BA l)]) true).run Tryz.prog w=.ok (.tuple #[.agg #[.string (BA r.2.1),.string (BA r.2.2)],.bool true]) w:=by
 have:=h.look keyE Tryz.underlying168 (zeroA w) (x:=(BA k,BA l)) ⟨by rw[BA_size];unfold maxLen;omega,by rw[BA_size];unfold maxLen;omega⟩
 rw[tab_look,BA_data,BA_data,hr]at this
 exact this
theorem look_none{w:World}{b:Nat}(h:Nm w b){k l:List UInt8}(hk:k.length≤281474976710656)(hl:l.length≤281474976710656)(hr:lookL (k,l)=none):
  (Instr.lookup 168 (.map (some b)) (.agg #[.string (BA k),.string (BA l)]) true).run Tryz.prog w=.ok (.tuple #[.agg #[.string ⟨#[]⟩,.string ⟨#[]⟩],.bool false]) w:=by
 have:=h.look keyE Tryz.underlying168 (zeroA w) (x:=(BA k,BA l)) ⟨by rw[BA_size];unfold maxLen;omega,by rw[BA_size];unfold maxLen;omega⟩
 rw[tab_look,BA_data,BA_data,hr]at this
 exact this
theorem look_mem{x:List UInt8×List UInt8}{r:R3}(h:lookL x=some r):r∈rowsL∧r.1=x.1:=by
 have h1:=List.mem_of_find?_eq_some h
 have h2:=List.find?_some h
 unfold hit at h2
 simp only[Bool.and_eq_true,beq_iff_eq]at h2
 exact⟨h1,h2.1⟩
theorem beqT{k L:List UInt8}(h:k=L):((BA k).toList==L)=true:=by rw[Lib.toList_data,BA_data,h];exact beq_self_eq_true _
theorem beqF{k L:List UInt8}(h:¬k=L):((BA k).toList==L)=false:=by rw[beq_eq_false_iff_ne,Lib.toList_data,BA_data];exact h
def numL(k:List UInt8):Int:=if k=[103,99]then 1 else if k=[115,99]then 2 else if k=[98,105]then 3 else 0
def kindL(n:Int):List UInt8:=if n=1 then[103,99]else if n=2 then[115,99]else if n=3 then[98,105]else[]
theorem number_any(k:List UInt8)(w:World):Calls Tryz.prog 164 #[.string (BA k)] w fun e w'=>e=.returned (.int .i64 (numL k))∧w'=w:=by
 by_cases h1:k=[103,99]
 ·have t1:=beqT h1
  have HE:Hid (numL k=1):=by unfold Hid numL;rw[if_pos h1]
  clear h1
  go_enter Tryz.func164,Tryz.ntmps164
  go_wp2
  go_ret
  exact⟨by rw[HE.out];rfl,rfl⟩
 ·have t1:=beqF h1
  by_cases h2:k=[115,99]
  ·have t2:=beqT h2
   have HE:Hid (numL k=2):=by unfold Hid numL;rw[if_neg h1,if_pos h2]
   clear h1 h2
   go_enter Tryz.func164,Tryz.ntmps164
   go_wp2
   go_ret
   exact⟨by rw[HE.out];rfl,rfl⟩
  ·have t2:=beqF h2
   by_cases h3:k=[98,105]
   ·have t3:=beqT h3
    have HE:Hid (numL k=3):=by unfold Hid numL;rw[if_neg h1,if_neg h2,if_pos h3]
    clear h1 h2 h3
    go_enter Tryz.func164,Tryz.ntmps164
    go_wp2
    go_ret
    exact⟨by rw[HE.out];rfl,rfl⟩
   ·have t3:=beqF h3
    have HE:Hid (numL k=0):=by unfold Hid numL;rw[if_neg h1,if_neg h2,if_neg h3]
    clear h1 h2 h3
    go_enter Tryz.func164,Tryz.ntmps164
    go_wp2
    go_ret
    exact⟨by rw[HE.out];rfl,rfl⟩
/--What a value alone names: its kind's number, its short name, the error. -/
def aloneL(l:List UInt8):Int×List UInt8×Int:=
 match lookL ([103,99],l)with
 |some r=>(1,r.2.1,0)
 |none=>match lookL ([98,105],l)with
  |some r=>(3,r.2.1,0)
  |none=>match lookL ([115,99],l)with
   |some r=>(2,r.2.1,0)
   |none=>(0,[],50)
end Go.Proofs.YtbbeciofgnkggaaGreatDoor.nam
namespace Go.Proofs.YtbbeciofgnkggaaGreatDoor.nam
open Go.RowKit lin
theorem alone1{l:List UInt8}{r:R3}(h:lookL ([103,99],l)=some r):aloneL l=(1,r.2.1,0):=by unfold aloneL;rw[h]
theorem alone2{l:List UInt8}{r:R3}(h:lookL ([103,99],l)=none)(h2:lookL ([98,105],l)=some r):aloneL l=(3,r.2.1,0):=by unfold aloneL;rw[h,h2]
theorem alone3{l:List UInt8}{r:R3}(h:lookL ([103,99],l)=none)(h2:lookL ([98,105],l)=none)(h3:lookL ([115,99],l)=some r):aloneL l=(2,r.2.1,0):=by unfold aloneL;rw[h,h2,h3]
theorem alone4{l:List UInt8}(h:lookL ([103,99],l)=none)(h2:lookL ([98,105],l)=none)(h3:lookL ([115,99],l)=none):aloneL l=(0,[],50):=by unfold aloneL;rw[h,h2,h3]
/--The first k kinds have no such value. -/
def noneTo(l:List UInt8)(k:Nat):Prop:=(1≤k→lookL ([103,99],l)=none)∧(2≤k→lookL ([98,105],l)=none)∧(3≤k→lookL ([115,99],l)=none)
theorem idx0(w:World):(Instr.index 186 (.agg #[.string ⟨#[103,99]⟩,.string ⟨#[98,105]⟩,.string ⟨#[115,99]⟩]) (.int .i64 0)).run Tryz.prog w=.ok (.string ⟨#[103,99]⟩) w:=by kernel_rfl
theorem idx1(w:World):(Instr.index 186 (.agg #[.string ⟨#[103,99]⟩,.string ⟨#[98,105]⟩,.string ⟨#[115,99]⟩]) (.int .i64 1)).run Tryz.prog w=.ok (.string ⟨#[98,105]⟩) w:=by kernel_rfl
theorem idx2(w:World):(Instr.index 186 (.agg #[.string ⟨#[103,99]⟩,.string ⟨#[98,105]⟩,.string ⟨#[115,99]⟩]) (.int .i64 2)).run Tryz.prog w=.ok (.string ⟨#[115,99]⟩) w:=by kernel_rfl
theorem alone_any(b:Nat)(l:List UInt8)(w:World)(h:Nm w b)(hl:l.length≤281474976710656):
  Calls Tryz.prog 162 #[.map (some b),.string (BA l)] w fun e w'=>e=.returned (.tuple #[.int .i64 (aloneL l).1,.string (BA (aloneL l).2.1),.int .i64 (aloneL l).2.2])∧Below w.heap.size w w':=by
 have HM:Hid (Nm w b):=h
 have HLS:Hid (∀W,Below w.heap.size w W→∀k r,k.length=2→lookL (k,l)=some r→(Instr.lookup 168 (.map (some b)) (.agg #[.string (BA k),.string (BA l)]) true).run Tryz.prog W=.ok (.tuple #[.agg #[.string (BA r.2.1),.string (BA r.2.2)],.bool true]) W):=fun W hb k r hk hr=>look_some (h.below hb) (by omega) hl hr
 have HLN:Hid (∀W,Below w.heap.size w W→∀k,k.length=2→lookL (k,l)=none→(Instr.lookup 168 (.map (some b)) (.agg #[.string (BA k),.string (BA l)]) true).run Tryz.prog W=.ok (.tuple #[.agg #[.string ⟨#[]⟩,.string ⟨#[]⟩],.bool false]) W):=fun W hb k hk hr=>look_none (h.below hb) (by omega) hl hr
 have N1:Hid (∀W,Calls Tryz.prog 164 #[.string ⟨#[103,99]⟩] W fun e w'=>e=.returned (.int .i64 1)∧w'=W):=fun W=>number_any [103,99] W
 have N2:Hid (∀W,Calls Tryz.prog 164 #[.string ⟨#[98,105]⟩] W fun e w'=>e=.returned (.int .i64 3)∧w'=W):=fun W=>number_any [98,105] W
 have N3:Hid (∀W,Calls Tryz.prog 164 #[.string ⟨#[115,99]⟩] W fun e w'=>e=.returned (.int .i64 2)∧w'=W):=fun W=>number_any [115,99] W
 clear h
 go_enter Tryz.func162,Tryz.ntmps162
 go_wp2
 go_loopw[12](fun i wr=>∃k:Nat,k≤3∧i=.int .i64 k∧Hid (noneTo l k)∧Below w.heap.size w wr)(fun i _=>3-(RowKit.intOf i).toNat)
 case atStart=>exact⟨0,by omega,rfl,⟨fun h=>absurd h (by omega),fun h=>absurd h (by omega),fun h=>absurd h (by omega)⟩,Below.refl _ _⟩
 case round=>
  obtain⟨k,hk,rfl,HP,hbel⟩:=hrel
  have hbs:=hbel.size
  rcases(show k=0∨k=1∨k=2∨k=3 by omega)with rfl|rfl|rfl|rfl
  ·cases hlk:lookL ([103,99],l)with
   |some r=>
    have LK:(Instr.lookup 168 (.map (some b)) (.agg #[.string ⟨#[103,99]⟩,.string (BA l)]) true).run Tryz.prog wr=.ok (.tuple #[.agg #[.string (BA r.2.1),.string (BA r.2.2)],.bool true]) wr:=HLS.out wr hbel [103,99] r rfl hlk
    have HE:Hid (aloneL l=(1,r.2.1,0)):=alone1 hlk
    clear hlk
    have IX:=idx0 wr
    go_wp2
    go_quiet(exact(N1.out _).mono fun _ _ h=>⟨h.1,_,h.2⟩)
    go_wp2
    go_ret3
    exact⟨by rw[HE.out];rfl,have q:=hbel.alloc hbs _;⟨q.os,q.tape,q.output,q.size,q.block⟩⟩
   |none=>
    have LK:(Instr.lookup 168 (.map (some b)) (.agg #[.string ⟨#[103,99]⟩,.string (BA l)]) true).run Tryz.prog wr=.ok (.tuple #[.agg #[.string ⟨#[]⟩,.string ⟨#[]⟩],.bool false]) wr:=HLN.out wr hbel [103,99] rfl hlk
    have HP2:Hid (noneTo l 1):=⟨fun _=>hlk,fun h=>absurd h (by omega),fun h=>absurd h (by omega)⟩
    clear hlk HP
    have IX:=idx0 wr
    go_wp2
    exact⟨⟨1,by omega,rfl,HP2,hbel.alloc hbs _⟩,by simp[Go.RowKit.intOf]⟩
  ·cases hlk:lookL ([98,105],l)with
   |some r=>
    have LK:(Instr.lookup 168 (.map (some b)) (.agg #[.string ⟨#[98,105]⟩,.string (BA l)]) true).run Tryz.prog wr=.ok (.tuple #[.agg #[.string (BA r.2.1),.string (BA r.2.2)],.bool true]) wr:=HLS.out wr hbel [98,105] r rfl hlk
    have HE:Hid (aloneL l=(3,r.2.1,0)):=alone2 (HP.out.1 (by omega)) hlk
    clear hlk
    have IX:=idx1 wr
    go_wp2
    go_quiet(exact(N2.out _).mono fun _ _ h=>⟨h.1,_,h.2⟩)
    go_wp2
    go_ret3
    exact⟨by rw[HE.out];rfl,have q:=hbel.alloc hbs _;⟨q.os,q.tape,q.output,q.size,q.block⟩⟩
   |none=>
    have LK:(Instr.lookup 168 (.map (some b)) (.agg #[.string ⟨#[98,105]⟩,.string (BA l)]) true).run Tryz.prog wr=.ok (.tuple #[.agg #[.string ⟨#[]⟩,.string ⟨#[]⟩],.bool false]) wr:=HLN.out wr hbel [98,105] rfl hlk
    have HP2:Hid (noneTo l 2):=⟨fun _=>HP.out.1 (by omega),fun _=>hlk,fun h=>absurd h (by omega)⟩
    clear hlk HP
    have IX:=idx1 wr
    go_wp2
    exact⟨⟨2,by omega,rfl,HP2,hbel.alloc hbs _⟩,by simp[Go.RowKit.intOf]⟩
  ·cases hlk:lookL ([115,99],l)with
   |some r=>
    have LK:(Instr.lookup 168 (.map (some b)) (.agg #[.string ⟨#[115,99]⟩,.string (BA l)]) true).run Tryz.prog wr=.ok (.tuple #[.agg #[.string (BA r.2.1),.string (BA r.2.2)],.bool true]) wr:=HLS.out wr hbel [115,99] r rfl hlk
    have HE:Hid (aloneL l=(2,r.2.1,0)):=alone3 (HP.out.1 (by omega)) (HP.out.2.1 (by omega)) hlk
    clear hlk
    have IX:=idx2 wr
    go_wp2
    go_quiet(exact(N3.out _).mono fun _ _ h=>⟨h.1,_,h.2⟩)
    go_wp2
    go_ret3
    exact⟨by rw[HE.out];rfl,have q:=hbel.alloc hbs _;⟨q.os,q.tape,q.output,q.size,q.block⟩⟩
   |none=>
    have LK:(Instr.lookup 168 (.map (some b)) (.agg #[.string ⟨#[115,99]⟩,.string (BA l)]) true).run Tryz.prog wr=.ok (.tuple #[.agg #[.string ⟨#[]⟩,.string ⟨#[]⟩],.bool false]) wr:=HLN.out wr hbel [115,99] rfl hlk
    have HP2:Hid (noneTo l 3):=⟨fun _=>HP.out.1 (by omega),fun _=>HP.out.2.1 (by omega),fun _=>hlk⟩
    clear hlk HP
    have IX:=idx2 wr
    go_wp2
    exact⟨⟨3,by omega,rfl,HP2,hbel.alloc hbs _⟩,by simp[Go.RowKit.intOf]⟩
  ·have HE:Hid (aloneL l=(0,[],50)):=alone4 (HP.out.1 (by omega)) (HP.out.2.1 (by omega)) (HP.out.2.2 (by omega))
   go_wp2
   go_ret3
   exact⟨by rw[HE.out];rfl,hbel⟩
end Go.Proofs.YtbbeciofgnkggaaGreatDoor.nam
namespace Go.Proofs.YtbbeciofgnkggaaGreatDoor.nam
open Go.RowKit lin
theorem byte_k(s:ByteArray)(c:Int)(w:World):
  Calls Tryz.prog 178 #[.string s,.int .u8 c] w fun e w'=>e=.returned (.int .i64 (Lib.indexByte s.data.toList c.toNat.toUInt8))∧w'=w:=
 Any.strings_IndexByte {Tryz.lays153 with} s c w
theorem index_set:∀c:Fin 128,(0≤Lib.indexByte [61,58] (c.val.toUInt8)↔(c.val=61∨c.val=58)):=by decide+kernel
theorem rune_low(c:Nat)(w:World)(hc:c<128):
  Calls Tryz.prog 169 #[.string ⟨#[61,58]⟩,.int .i32 c] w fun e w'=>∃k,e=.returned (.int .i64 k)∧(0≤k↔(c=61∨c=58))∧Below w.heap.size w w':=by
 have BK:=byte_k ⟨#[61,58]⟩ c w
 have HI:=index_set ⟨c,hc⟩
 have BK2:Calls Tryz.prog 178 #[.string ⟨#[61,58]⟩,.int .u8 c] w fun e w'=>e=.returned (.int .i64 (Lib.indexByte [61,58] c.toUInt8))∧w'=w:=BK
 clear BK
 simp only[]at HI
 generalize Lib.indexByte [61,58] c.toUInt8=k at*
 have HI2:Hid (0≤k↔(c=61∨c=58)):=HI
 clear HI
 have t1:(0:Int)≤(c:Int):=by omega
 have t2:(c:Int)<128:=by omega
 go_enter Tryz.func169,Tryz.ntmps169
 go_wp2_with fail
 refine BK2.mono ?_
 rintro e w2⟨rfl,rfl⟩
 go_wp2
 all_goals try rw[Exit.noGoto_ret]
 go_ret
 exact⟨_,rfl,HI2.out,Below.refl _ _⟩
theorem valid_any(c:Nat)(w:World)(hm:c≤1114111)(hv:c<55296∨57343<c):
  Calls Tryz.prog 179 #[.int .i32 c] w fun e w'=>e=.returned (.bool true)∧w'=w:=by
 have t1:(0:Int)≤(c:Int):=by omega
 rcases hv with hv|hv
 ·have t2:(c:Int)<55296:=by omega
  go_enter Tryz.func179,Tryz.ntmps179
  go_wp2
  go_ret
  exact⟨rfl,rfl⟩
 ·have t2:¬(c:Int)<55296:=by omega
  have t3:(57343:Int)<(c:Int):=by omega
  have t4:(c:Int)≤1114111:=by omega
  go_enter Tryz.func179,Tryz.ntmps179
  go_wp2
  go_ret
  exact⟨rfl,rfl⟩
/--The bytes of a rune of several bytes. -/
theorem enc_facts(c:Nat)(hc:128≤c)(hm:c≤1114111)(hv:c<55296∨57343<c):
  ∃n,(n=1∨n=2∨n=3)∧∃h:(Utf8.encode (c:Int)).size=n+1,128≤((Utf8.encode (c:Int))[n]'(by omega)).toNat:=by
 have hval:Utf8.valid (c:Int)=true:=by
  unfold Utf8.valid
  simp
  omega
 have fin:∀(E:ByteArray)(l:List UInt8),E=BA (l++[UInt8.ofNat (128+c%64)])→(l.length=1∨l.length=2∨l.length=3)→∃n,(n=1∨n=2∨n=3)∧∃h:E.size=n+1,128≤(E[n]'(by omega)).toNat:=by
  rintro E l rfl hl
  have hz:(BA (l++[UInt8.ofNat (128+c%64)])).size=l.length+1:=by rw[BA_size,List.length_append];rfl
  refine⟨l.length,hl,hz,?_⟩
  show 128≤((l++[UInt8.ofNat (128+c%64)]).toArray[l.length]'(by simp)).toNat
  rw[List.getElem_toArray,List.getElem_append_right (Nat.le_refl _)]
  simp only[Nat.sub_self,List.getElem_cons_zero]
  rw[UInt8.toNat_ofNat']
  omega
 rcases Nat.lt_or_ge c 2048 with h1|h1
 ·refine fin _ [UInt8.ofNat (192+c/64)] ?_ (.inl rfl)
  unfold Utf8.encode
  simp only[hval,if_true,Int.toNat_natCast]
  rw[if_neg (by omega),if_pos (by omega)]
  rfl
 ·rcases Nat.lt_or_ge c 65536 with h2|h2
  ·refine fin _ [UInt8.ofNat (224+c/4096),UInt8.ofNat (128+c/64%64)] ?_ (.inr (.inl rfl))
   unfold Utf8.encode
   simp only[hval,if_true,Int.toNat_natCast]
   rw[if_neg (by omega),if_neg (by omega),if_pos (by omega)]
   rfl
  ·refine fin _ [UInt8.ofNat (240+c/262144),UInt8.ofNat (128+c/4096%64),UInt8.ofNat (128+c/64%64)] ?_ (.inr (.inr rfl))
   unfold Utf8.encode
   simp only[hval,if_true,Int.toNat_natCast]
   rw[if_neg (by omega),if_neg (by omega),if_neg (by omega)]
   rfl
theorem none_nil:∀y:Fin 256,128≤y.val→Lib.indexByte [] y.val.toUInt8=-1:=by decide+kernel
theorem rune_high(c:Nat)(w:World)(hc:128≤c)(hm:c≤1114111)(h3:c≠65533)(hv:c<55296∨57343<c):
  Calls Tryz.prog 169 #[.string ⟨#[61,58]⟩,.int .i32 c] w fun e w'=>e=.returned (.int .i64 (-1))∧Below w.heap.size w w':=by
 have t1:(0:Int)≤(c:Int):=by omega
 have t2:¬(c:Int)<128:=by omega
 have t3:((c:Int)==65533)=false:=by rw[beq_eq_false_iff_ne];omega
 obtain⟨E,hE,n,hn,hsz,hby⟩:∃E,Utf8.encode (c:Int)=E∧∃n,(n=1∨n=2∨n=3)∧∃h:E.size=n+1,128≤(E[n]'(by omega)).toNat:=⟨_,rfl,enc_facts c hc hm hv⟩
 have VA:=valid_any c w hm hv
 clear hv
 go_enter Tryz.func169,Tryz.ntmps169
 go_wp2_with fail
 refine VA.mono ?_
 rintro e w2⟨rfl,rfl⟩
 clear VA
 rcases hn with rfl|rfl|rfl
 ·have hlt:(E[1]'(by omega)).toNat<256:=UInt8.toNat_lt _
  generalize hy:(E[1]'(by omega)).toNat=y at*
  have BK:∀W,Calls Tryz.prog 178 #[.string (ByteArray.extract ⟨#[61,58]⟩ 2 2),.int .u8 y] W fun e w'=>e=.returned (.int .i64 (-1))∧w'=W:=by
   intro W
   refine(byte_k _ _ _).mono ?_
   rintro e w'⟨rfl,rfl⟩
   exact⟨by rw[show(ByteArray.extract ⟨#[61,58]⟩ 2 2).data.toList=[]from by decide+kernel,Int.toNat_natCast,none_nil ⟨y,hlt⟩ hby],rfl⟩
  have q1:((58:Int)==(y:Int))=false:=by rw[beq_eq_false_iff_ne];omega
  have q2:((58:Int)!=(y:Int))=true:=by simp;omega
  have HBK:Hid (∀W,Calls Tryz.prog 178 #[.string (ByteArray.extract ⟨#[61,58]⟩ 2 2),.int .u8 y] W fun e w'=>e=.returned (.int .i64 (-1))∧w'=W):=BK
  have k1:((⟨#[61,58]⟩:ByteArray)[1]'(by decide)).toNat=58:=rfl
  have k2:IntKind.i64.wrap 2=2:=by kernel_rfl
  clear hby hlt BK
  go_wp2
  go_step3
  go_wp2
  refine wp_loop_rounds 1 ?_
  rw[rounds_succ]
  go_wp2_with fail
  go_step3
  go_wp2_with fail
  go_quiet(fail)
  go_wp2_with fail
  go_quiet(exact(HBK.out _).mono fun _ _ h=>⟨h.1,_,h.2⟩)
  go_wp2
  rw[Exit.noGoto_ret]
  go_wp2
  try rw[Exit.noGoto_ret]
  try go_wp2
  go_ret
  exact⟨rfl,⟨rfl,rfl,rfl,Nat.le_refl _,fun _ _=>rfl⟩⟩
 ·go_wp2
  go_step3
  go_wp2
  refine wp_loop_rounds 1 ?_
  rw[rounds_succ]
  go_wp2
  rw[Exit.noGoto_ret]
  go_ret
  exact⟨rfl,Below.refl _ _⟩
 ·go_wp2
  go_step3
  go_wp2
  refine wp_loop_rounds 1 ?_
  rw[rounds_succ]
  go_wp2
  rw[Exit.noGoto_ret]
  go_ret
  exact⟨rfl,Below.refl _ _⟩
end Go.Proofs.YtbbeciofgnkggaaGreatDoor.nam
