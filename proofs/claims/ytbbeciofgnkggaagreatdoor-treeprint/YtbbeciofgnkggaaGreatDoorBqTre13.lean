import Derived.Test.YtbbeciofgnkggaaGreatDoorBqTre12
import Derived.Test.YtbbeciofgnkggaaGreatDoorBqLin1
import Derived.Test.YtbbeciofgnkggaaGreatDoorBqNod1
import Derived.Test.YtbbeciofgnkggaaGreatDoorBqLin4
import Derived.Deep.AppendLies
import Derived.Deep.LoopGhost
set_option linter.unusedSimpArgs false
set_option linter.unusedVariables false
set_option maxRecDepth 100000
set_option maxHeartbeats 4000000
namespace Go.Proofs.YtbbeciofgnkggaaGreatDoor.tre
open Go.RowKit nod tok
open rng(R RV ret_int ret_bool)
theorem at8c{W:World}{h:Nat}{T:TypeId}{k0 k1 k2 k3 k4 k5 k6 k7:Value}(BN:Bk W h #[k0,k1,k2,k3,k4,k5,k6,k7] T):W.cell? ⟨h,0,none⟩=some k0∧W.cell? ⟨h,1,none⟩=some k1∧W.cell? ⟨h,2,none⟩=some k2∧W.cell? ⟨h,3,none⟩=some k3∧W.cell? ⟨h,4,none⟩=some k4∧W.cell? ⟨h,5,none⟩=some k5∧W.cell? ⟨h,6,none⟩=some k6∧W.cell? ⟨h,7,none⟩=some k7:=
 ⟨BN.cell 0 rfl,BN.cell 1 rfl,BN.cell 2 rfl,BN.cell 3 rfl,BN.cell 4 rfl,BN.cell 5 rfl,BN.cell 6 rfl,BN.cell 7 rfl⟩
theorem at8_cells{W:World}{b off:Nat}{c0 c1 c2 c3 c4 c5 c6 c7:Value}(h:At8 W b off (.agg #[c0,c1,c2,c3,c4,c5,c6,c7])):W.cell? ⟨b,off,none⟩=some c0∧W.cell? ⟨b,off+1,none⟩=some c1∧W.cell? ⟨b,off+2,none⟩=some c2∧W.cell? ⟨b,off+3,none⟩=some c3∧W.cell? ⟨b,off+4,none⟩=some c4∧W.cell? ⟨b,off+5,none⟩=some c5∧W.cell? ⟨b,off+6,none⟩=some c6∧W.cell? ⟨b,off+7,none⟩=some c7:=by
 obtain⟨d0,d1,d2,d3,d4,d5,d6,d7,e,g0,g1,g2,g3,g4,g5,g6,g7⟩:=h
 simp only[Value.agg.injEq,Array.mk.injEq,List.cons.injEq,and_true]at e
 obtain⟨rfl,rfl,rfl,rfl,rfl,rfl,rfl,rfl⟩:=e
 exact⟨g0,g1,g2,g3,g4,g5,g6,g7⟩
def set8w(W:World)(k:Nat)(x0 x1 x2 x3 x4 x5 x6 x7:Value):World:=(((((((W.setCell ⟨k,0,none⟩ x0).setCell ⟨k,1,none⟩ x1).setCell ⟨k,2,none⟩ x2).setCell ⟨k,3,none⟩ x3).setCell ⟨k,4,none⟩ x4).setCell ⟨k,5,none⟩ x5).setCell ⟨k,6,none⟩ x6).setCell ⟨k,7,none⟩ x7
theorem bk_set8{W:World}{k:Nat}{a0 a1 a2 a3 a4 a5 a6 a7:Value}{t:TypeId}(h:Bk W k #[a0,a1,a2,a3,a4,a5,a6,a7] t)(x0 x1 x2 x3 x4 x5 x6 x7:Value):Bk (set8w W k x0 x1 x2 x3 x4 x5 x6 x7) k #[x0,x1,x2,x3,x4,x5,x6,x7] t:=by
 have:=(((((((h.set 0 x0).set 1 x1).set 2 x2).set 3 x3).set 4 x4).set 5 x5).set 6 x6).set 7 x7
 simpa[set8w]using this
theorem bk_set8_apart{W:World}{g k:Nat}{cs:Array Value}{t:TypeId}(h:Bk W g cs t)(hk:g≠k)(x0 x1 x2 x3 x4 x5 x6 x7:Value):Bk (set8w W k x0 x1 x2 x3 x4 x5 x6 x7) g cs t:=(((((((h.apart hk x0).apart hk x1).apart hk x2).apart hk x3).apart hk x4).apart hk x5).apart hk x6).apart hk x7
theorem below_set8{B:Nat}{w W:World}{k:Nat}(h:Below B w W)(hk:B≤k)(x0 x1 x2 x3 x4 x5 x6 x7:Value):Below B w (set8w W k x0 x1 x2 x3 x4 x5 x6 x7):=
 (((((((h.setCell (p:=⟨k,0,none⟩) hk x0).setCell (p:=⟨k,1,none⟩) hk x1).setCell (p:=⟨k,2,none⟩) hk x2).setCell (p:=⟨k,3,none⟩) hk x3).setCell (p:=⟨k,4,none⟩) hk x4).setCell (p:=⟨k,5,none⟩) hk x5).setCell (p:=⟨k,6,none⟩) hk x6).setCell (p:=⟨k,7,none⟩) hk x7
theorem class_sides(m a b:Int)(g:Bool)(n:ByteArray)(ta:Option Addr)(tl tc:Nat)(kb ko kc:Nat)(lk lm la lb rk rm ra rb:Int)(lg rg:Bool)(ln rn:ByteArray)(lsa lao rsa rao:Option Addr)(lsl lsc lnk lcap rsl rsc rnk rcap:Nat)(cl cr:Bool)(d:Int)(w:World)(hd:d≤50)(h:bareB m a b g n tl 2 m 0 0 g ⟨#[]⟩ 2=true)(hm1:1≤m)(hm3:m≤3)(hkc:2≤kc∧kc≤9223372036854775807)
  (hL:At8 w kb ko (.agg (n8 lk lm la lb lg ln lsa lsl lsc lao lnk lcap)))(hR:At8 w kb (ko+8) (.agg (n8 rk rm ra rb rg rn rsa rsl rsc rao rnk rcap)))(hkb:kb<w.heap.size)
  (HCL:Hid (∀W,Below w.heap.size w W→Calls Tryz.prog 34 #[.agg (n8 lk lm la lb lg ln lsa lsl lsc lao lnk lcap),.int .i64 d] W fun e w'=>e=.returned (.bool cl)∧Below W.heap.size W w'))
  (HCR:Hid (∀W,Below w.heap.size w W→Calls Tryz.prog 34 #[.agg (n8 rk rm ra rb rg rn rsa rsl rsc rao rnk rcap),.int .i64 d] W fun e w'=>e=.returned (.bool cr)∧Below W.heap.size W w')):
  Calls Tryz.prog 34 #[.agg (n8 3 m a b g n ta tl tc (some ⟨kb,ko,none⟩) 2 kc),.int .i64 d] w fun e w'=>e=.returned (.bool (!lg&&!rg&&decide (rm=0)&&cl&&cr))∧Below w.heap.size w w':=by
 have C:=bare_any 3 m a b g n ta tl tc (some ⟨kb,ko,none⟩) 2 kc 0 m 0 0 g ⟨#[]⟩ none 0 0 (some ⟨kb,ko,none⟩) 2 kc (w.alloc (.cells (n8 3 m a b g n ta tl tc (some ⟨kb,ko,none⟩) 2 kc) 25))
 rw[h]at C
 have h2:¬50<d:=by omega
 have HB0:Hid (Below w.heap.size w (w.alloc (.cells (n8 3 m a b g n ta tl tc (some ⟨kb,ko,none⟩) 2 kc) 25))):=(Below.refl _ w).alloc (Nat.le_refl _) _
 have HBK:Hid (Bk (w.alloc (.cells (n8 3 m a b g n ta tl tc (some ⟨kb,ko,none⟩) 2 kc) 25)) w.heap.size (n8 3 m a b g n ta tl tc (some ⟨kb,ko,none⟩) 2 kc) 25):=Bk.new w _ _
 have HLC:Hid (At8 w kb ko (.agg (n8 lk lm la lb lg ln lsa lsl lsc lao lnk lcap))):=hL
 have HRC:Hid (At8 w kb (ko+8) (.agg (n8 rk rm ra rb rg rn rsa rsl rsc rao rnk rcap))):=hR
 have f0:(m==0)=false:=by rw[beq_eq_false_iff_ne];omega
 have c1:¬m<1:=by omega
 have c3:¬3<m:=by omega
 clear h hd hL hR hm1 hm3
 go_enter Tryz.func34,Tryz.ntmps34
 go_wp2_with fail
 refine C.mono ?_
 rintro e w1⟨rfl,b1⟩
 have hbk1:=HBK.out.on b1
 have x1:=hbk1.cell 1 (u:=.int .i64 m) rfl
 have x7:=hbk1.cell 7 (u:=.slice (some ⟨kb,ko,none⟩) 2 kc) rfl
 have HB1:Hid (Below w.heap.size w w1):=HB0.out.trans (b1.mono HB0.out.size)
 have HBK1:Hid (Bk w1 w.heap.size (n8 3 m a b g n ta tl tc (some ⟨kb,ko,none⟩) 2 kc) 25):=hbk1
 have HSd:Hid (∀w',Below w1.heap.size w1 w'→w'.cell? ⟨w.heap.size,7,none⟩=some (.slice (some ⟨kb,ko,none⟩) 2 kc)∧(w'.cell? ⟨kb,ko,none⟩=some (.int .i64 lk)∧w'.cell? ⟨kb,ko+1,none⟩=some (.int .i64 lm)∧w'.cell? ⟨kb,ko+2,none⟩=some (.int .i64 la)∧w'.cell? ⟨kb,ko+3,none⟩=some (.int .i64 lb)∧w'.cell? ⟨kb,ko+4,none⟩=some (.bool lg)∧w'.cell? ⟨kb,ko+5,none⟩=some (.string ln)∧w'.cell? ⟨kb,ko+6,none⟩=some (.slice lsa lsl lsc)∧w'.cell? ⟨kb,ko+7,none⟩=some (.slice lao lnk lcap))∧(w'.cell? ⟨kb,ko+8,none⟩=some (.int .i64 rk)∧w'.cell? ⟨kb,ko+8+1,none⟩=some (.int .i64 rm)∧w'.cell? ⟨kb,ko+8+2,none⟩=some (.int .i64 ra)∧w'.cell? ⟨kb,ko+8+3,none⟩=some (.int .i64 rb)∧w'.cell? ⟨kb,ko+8+4,none⟩=some (.bool rg)∧w'.cell? ⟨kb,ko+8+5,none⟩=some (.string rn)∧w'.cell? ⟨kb,ko+8+6,none⟩=some (.slice rsa rsl rsc)∧w'.cell? ⟨kb,ko+8+7,none⟩=some (.slice rao rnk rcap))):=fun w' d=>⟨(HBK1.out.on d).cell 7 rfl,at8_cells (HLC.out.below (HB1.out.trans (below_less d HB1.out.size)) hkb),at8_cells (HRC.out.below (HB1.out.trans (below_less d HB1.out.size)) hkb)⟩
 clear C b1 HBK HB0 HLC HRC hbk1 HBK1
 go_upto_region 13 with fail
 clear x1 x7
 refine wp_region_noPanic (wp_region_held_drew (S:=fun w'=>w'.cell? ⟨w.heap.size,7,none⟩=some (.slice (some ⟨kb,ko,none⟩) 2 kc)∧(w'.cell? ⟨kb,ko,none⟩=some (.int .i64 lk)∧w'.cell? ⟨kb,ko+1,none⟩=some (.int .i64 lm)∧w'.cell? ⟨kb,ko+2,none⟩=some (.int .i64 la)∧w'.cell? ⟨kb,ko+3,none⟩=some (.int .i64 lb)∧w'.cell? ⟨kb,ko+4,none⟩=some (.bool lg)∧w'.cell? ⟨kb,ko+5,none⟩=some (.string ln)∧w'.cell? ⟨kb,ko+6,none⟩=some (.slice lsa lsl lsc)∧w'.cell? ⟨kb,ko+7,none⟩=some (.slice lao lnk lcap))∧(w'.cell? ⟨kb,ko+8,none⟩=some (.int .i64 rk)∧w'.cell? ⟨kb,ko+8+1,none⟩=some (.int .i64 rm)∧w'.cell? ⟨kb,ko+8+2,none⟩=some (.int .i64 ra)∧w'.cell? ⟨kb,ko+8+3,none⟩=some (.int .i64 rb)∧w'.cell? ⟨kb,ko+8+4,none⟩=some (.bool rg)∧w'.cell? ⟨kb,ko+8+5,none⟩=some (.string rn)∧w'.cell? ⟨kb,ko+8+6,none⟩=some (.slice rsa rsl rsc)∧w'.cell? ⟨kb,ko+8+7,none⟩=some (.slice rao rnk rcap))) (by kernel_rfl) (HSd.out _ (Below.refl _ w1).drew) fun hHeld=>?_)
 obtain⟨Wc,hWc⟩:∃Wc,w1.drew=Wc:=⟨_,rfl⟩
 have HBW:Hid (Below w1.heap.size w1 Wc):=by unfold Hid;rw[←hWc];exact(Below.refl _ w1).drew
 rw[hWc]at hHeld⊢
 clear hWc
 refine lin.tH 0 (v:=?_) ?_
 try simp only[Act.put,lin.sm]
 refine lin.tH 1 (v:=?_) ?_
 try simp only[Act.put,lin.sm]
 refine lin.tH 2 (v:=?_) ?_
 try simp only[Act.put,lin.sm]
 refine lin.tH 3 (v:=?_) ?_
 try simp only[Act.put,lin.sm]
 refine lin.tH 4 (v:=?_) ?_
 try simp only[Act.put,lin.sm]
 refine lin.tH 5 (v:=?_) ?_
 try simp only[Act.put,lin.sm]
 refine lin.tH 6 (v:=?_) ?_
 try simp only[Act.put,lin.sm]
 refine lin.tH 7 (v:=?_) ?_
 try simp only[Act.put,lin.sm]
 iterate 2
  all_goals
   first
   |(have q:=H7;clear q;refine wpAnyH_ready (rs:=[9]) (by kernel_rfl) (by simp) ?_;refine(AllReadyH.cons rfl (fun K hK9=>?_) AllReadyH.nil))
   |(have q:=H8;clear q;refine wpAnyH_ready (rs:=[8]) (by kernel_rfl) (by simp) ?_;refine(AllReadyH.cons rfl (fun K hK8=>?_) AllReadyH.nil))
   |(refine wpAnyH_ready (rs:=[8,9]) (by kernel_rfl) (by simp) ?_;refine(AllReadyH.cons rfl (fun K hK8=>?_) (AllReadyH.cons rfl (fun K hK9=>?_) AllReadyH.nil)))
  all_goals
   first
   |(have q:=hK8;clear q;go_simp;obtain⟨Wn,hWn⟩:∃Wn,Wc.alloc (.cells (n8 0 0 0 0 false ⟨#[]⟩ none 0 0 none 0 0) 25)=Wn:=⟨_,rfl⟩;have d:Below Wc.heap.size Wc Wn:=(by rw[←hWn];exact(Below.refl _ _).alloc (Nat.le_refl _) _);have k:Bk Wn Wc.heap.size (n8 0 0 0 0 false ⟨#[]⟩ none 0 0 none 0 0) 25:=(by rw[←hWn];exact Bk.new _ _ _);rw[hWn];have hbp:w1.heap.size≤Wc.heap.size:=HBW.out.size;(try(have hne:p8≠Wc.heap.size:=Nat.ne_of_lt H8.out.lt));obtain⟨p7,hp0⟩:∃p,Wc.heap.size=p:=⟨_,rfl⟩;rw[hp0]at k hbp⊢;(try(rw[hp0]at hne;have HNE:Hid (p8≠p7):=hne;clear hne));have HP7:Hid (w1.heap.size≤p7):=hbp;clear hp0 hWn hbp;(try(replace H7:Hid (Bk Wn p7 (n8 0 0 0 0 false ⟨#[]⟩ none 0 0 none 0 0) 25):=H7.out.on d));(try(replace H8:Hid (Bk Wn p8 (n8 0 0 0 0 false ⟨#[]⟩ none 0 0 none 0 0) 25):=H8.out.on d));replace HBW:Hid (Below w1.heap.size w1 Wn):=HBW.out.trans (below_less d HBW.out.size);have H7:Hid (Bk Wn p7 (n8 0 0 0 0 false ⟨#[]⟩ none 0 0 none 0 0) 25):=k;clear k;refine hK8.out _ _ (HSd.out _ HBW.out) (fun hHeld=>?_);clear hK8 K d;rename World=>Wc;(try simp only[Act.put,lin.sm]))
   |(have q:=hK9;clear q;go_simp;obtain⟨Wn,hWn⟩:∃Wn,Wc.alloc (.cells (n8 0 0 0 0 false ⟨#[]⟩ none 0 0 none 0 0) 25)=Wn:=⟨_,rfl⟩;have d:Below Wc.heap.size Wc Wn:=(by rw[←hWn];exact(Below.refl _ _).alloc (Nat.le_refl _) _);have k:Bk Wn Wc.heap.size (n8 0 0 0 0 false ⟨#[]⟩ none 0 0 none 0 0) 25:=(by rw[←hWn];exact Bk.new _ _ _);rw[hWn];have hbp:w1.heap.size≤Wc.heap.size:=HBW.out.size;(try(have hne:p7≠Wc.heap.size:=Nat.ne_of_lt H7.out.lt));obtain⟨p8,hp0⟩:∃p,Wc.heap.size=p:=⟨_,rfl⟩;rw[hp0]at k hbp⊢;(try(rw[hp0]at hne;have HNE:Hid (p7≠p8):=hne;clear hne));have HP8:Hid (w1.heap.size≤p8):=hbp;clear hp0 hWn hbp;(try(replace H7:Hid (Bk Wn p7 (n8 0 0 0 0 false ⟨#[]⟩ none 0 0 none 0 0) 25):=H7.out.on d));(try(replace H8:Hid (Bk Wn p8 (n8 0 0 0 0 false ⟨#[]⟩ none 0 0 none 0 0) 25):=H8.out.on d));replace HBW:Hid (Below w1.heap.size w1 Wn):=HBW.out.trans (below_less d HBW.out.size);have H8:Hid (Bk Wn p8 (n8 0 0 0 0 false ⟨#[]⟩ none 0 0 none 0 0) 25):=k;clear k;refine hK9.out _ _ (HSd.out _ HBW.out) (fun hHeld=>?_);clear hK9 K d;rename World=>Wc;(try simp only[Act.put,lin.sm]))
 all_goals
  obtain⟨W10,hW10⟩:∃W,set8w Wc p7 (.int .i64 lk) (.int .i64 lm) (.int .i64 la) (.int .i64 lb) (.bool lg) (.string ln) (.slice lsa lsl lsc) (.slice lao lnk lcap)=W:=⟨_,rfl⟩
  have k10:Bk W10 p7 (n8 lk lm la lb lg ln lsa lsl lsc lao lnk lcap) 25:=by rw[←hW10];exact bk_set8 H7.out ..
  have b10:Below w1.heap.size w1 W10:=by rw[←hW10];exact below_set8 HBW.out HP7.out ..
  have o8:Bk W10 p8 (n8 0 0 0 0 false ⟨#[]⟩ none 0 0 none 0 0) 25:=by rw[←hW10];first|exact bk_set8_apart H8.out (Ne.symm HNE.out) ..|exact bk_set8_apart H8.out HNE.out ..
  have HO8:Hid (Bk W10 p8 (n8 0 0 0 0 false ⟨#[]⟩ none 0 0 none 0 0) 25):=o8
  clear o8
  obtain⟨x0,x1,x2,x3,x4,x5,x6,x7⟩:=at8c H7.out
  have e0:=H7.out.frozen 0
  have e1:=H7.out.frozen 1
  have e2:=H7.out.frozen 2
  have e3:=H7.out.frozen 3
  have e4:=H7.out.frozen 4
  have e5:=H7.out.frozen 5
  have e6:=H7.out.frozen 6
  have e7:=H7.out.frozen 7
  unfold set8w at hW10
  have HWW:Hid (_=W10):=hW10
  have HKK:Hid (Bk W10 p7 (n8 lk lm la lb lg ln lsa lsl lsc lao lnk lcap) 25):=k10
  have HBB:Hid (Below w1.heap.size w1 W10):=b10
  clear hW10 k10 b10
  refine wpAnyH_ready (rs:=[10]) (by kernel_rfl) (by simp) ?_
  refine AllReadyH.cons rfl (fun K hK=>?_) AllReadyH.nil
  go_simp
  rw[HWW.out]
  refine hK.out _ _ (HSd.out _ HBB.out) (fun hHeld=>?_)
  clear hK K HWW x0 x1 x2 x3 x4 x5 x6 x7 e0 e1 e2 e3 e4 e5 e6 e7
  try simp only[Act.put,lin.sm]
  have H7':Hid (Bk W10 p7 (n8 lk lm la lb lg ln lsa lsl lsc lao lnk lcap) 25):=HKK.out
  replace H8:Hid (Bk W10 p8 (n8 0 0 0 0 false ⟨#[]⟩ none 0 0 none 0 0) 25):=HO8.out
  replace HBW:Hid (Below w1.heap.size w1 W10):=HBB.out
  clear HKK HBB HO8 H7
  rename World=>Wc
  obtain⟨W11,hW11⟩:∃W,set8w Wc p8 (.int .i64 rk) (.int .i64 rm) (.int .i64 ra) (.int .i64 rb) (.bool rg) (.string rn) (.slice rsa rsl rsc) (.slice rao rnk rcap)=W:=⟨_,rfl⟩
  have k11:Bk W11 p8 (n8 rk rm ra rb rg rn rsa rsl rsc rao rnk rcap) 25:=by rw[←hW11];exact bk_set8 H8.out ..
  have b11:Below w1.heap.size w1 W11:=by rw[←hW11];exact below_set8 HBW.out HP8.out ..
  have o7:Bk W11 p7 (n8 lk lm la lb lg ln lsa lsl lsc lao lnk lcap) 25:=by rw[←hW11];first|exact bk_set8_apart H7'.out HNE.out ..|exact bk_set8_apart H7'.out (Ne.symm HNE.out) ..
  have HO7:Hid (Bk W11 p7 (n8 lk lm la lb lg ln lsa lsl lsc lao lnk lcap) 25):=o7
  clear o7
  obtain⟨x0,x1,x2,x3,x4,x5,x6,x7⟩:=at8c H8.out
  have e0:=H8.out.frozen 0
  have e1:=H8.out.frozen 1
  have e2:=H8.out.frozen 2
  have e3:=H8.out.frozen 3
  have e4:=H8.out.frozen 4
  have e5:=H8.out.frozen 5
  have e6:=H8.out.frozen 6
  have e7:=H8.out.frozen 7
  unfold set8w at hW11
  have HWW:Hid (_=W11):=hW11
  have HKK:Hid (Bk W11 p8 (n8 rk rm ra rb rg rn rsa rsl rsc rao rnk rcap) 25):=k11
  have HBB:Hid (Below w1.heap.size w1 W11):=b11
  clear hW11 k11 b11
  refine wpAnyH_ready (rs:=[11]) (by kernel_rfl) (by simp) ?_
  refine AllReadyH.cons rfl (fun K hK=>?_) AllReadyH.nil
  go_simp
  rw[HWW.out]
  refine hK.out _ _ (HSd.out _ HBB.out) (fun hHeld=>?_)
  clear hK K HWW x0 x1 x2 x3 x4 x5 x6 x7 e0 e1 e2 e3 e4 e5 e6 e7
  try simp only[Act.put,lin.sm]
  refine wpAnyH_done (by kernel_rfl) ?_ _
  refine NoPanic.normal ?_
  clear hHeld HBW H8 H7' HSd
  have HBF:Hid (Below w.heap.size w W11):=HB1.out.trans (below_less HBB.out HB1.out.size)
  clear HBB
  obtain⟨y0,y1,y2,y3,y4,y5,y6,y7⟩:=at8c HO7.out
  obtain⟨z0,z1,z2,z3,z4,z5,z6,z7⟩:=at8c HKK.out
  have fin0:Below w.heap.size w W11:=HBF.out
  cases lg with
  |true=>go_wp2;go_ret;exact⟨rt_bool rfl,HBF.out⟩
  |false=>
   cases rg with
   |true=>go_wp2;go_ret;exact⟨rt_bool rfl,HBF.out⟩
   |false=>
    by_cases hm:rm=0
    rotate_left
    ·have hmb:(rm==0)=false:=by simp[hm]
     have hE:Hid (decide (rm=0)=false):=decide_eq_false hm
     go_wp2;go_ret;exact⟨rt_bool (by rw[hE.out];rfl),HBF.out⟩
    subst hm
    have CC:=HCL.out _ HBF.out
    go_wp2_with fail
    refine CC.mono ?_
    rintro e w2⟨rfl,d2⟩
    have HB2:Hid (Below w.heap.size w w2):=HBF.out.trans (below_less d2 HBF.out.size)
    have z8:=at8c (HKK.out.on d2)
    clear CC d2 y0 y1 y2 y3 y4 y5 y6 y7 z0 z1 z2 z3 z4 z5 z6 z7
    obtain⟨z0,z1,z2,z3,z4,z5,z6,z7⟩:=z8
    cases cl with
    |false=>go_wp2;go_ret;exact⟨rt_bool rfl,HB2.out⟩
    |true=>
     have CC:=HCR.out _ HB2.out
     go_wp2_with fail
     refine CC.mono ?_
     rintro e w3⟨rfl,d3⟩
     have HB3:Hid (Below w.heap.size w w3):=HB2.out.trans (below_less d3 HB2.out.size)
     clear CC d3
     go_wp2
     go_ret
     exact⟨rt_bool (by cases cr<;>rfl),HB3.out⟩
theorem cls_pair(M:Nat)(lk lm la lb rk rm ra rb:Int)(lg rg:Bool)(ln rn:ByteArray)(ls rs:List R)(lks rks:List Nd)(d:Int)(hd:d≤50):
  (!lg&&!rg&&decide (rm=0)&&clsB M (.mk lk lm la lb lg ln ls lks) d&&clsB M (.mk rk rm ra rb rg rn rs rks) d)=(sideB (.mk lk lm la lb lg ln ls lks)&&sideB (.mk rk rm ra rb rg rn rs rks)&&decide ((Nd.mk rk rm ra rb rg rn rs rks).mode=0)&&(insD M (.mk lk lm la lb lg ln ls lks) d&&insD M (.mk rk rm ra rb rg rn rs rks) d)):=by
 unfold clsB sideB
 dsimp only
 rw[decide_eq_true hd,show decide ((Nd.mk lk lm la lb lg ln ls lks).kind=3)=(lk==3)from rfl,show decide ((Nd.mk rk rm ra rb rg rn rs rks).kind=3)=(rk==3)from rfl,show decide ((Nd.mk rk rm ra rb rg rn rs rks).mode=0)=decide (rm=0)from rfl]
 generalize othersZ (.mk lk lm la lb lg ln ls lks)=C
 generalize othersZ (.mk rk rm ra rb rg rn rs rks)=D
 generalize insD M (.mk lk lm la lb lg ln ls lks) d=E
 generalize insD M (.mk rk rm ra rb rg rn rs rks) d=F
 show(!lg&&!rg&&decide (rm=0)&&((lk==3)&&true&&C&&E)&&((rk==3)&&true&&D&&F))=((lk==3)&&!lg&&C&&((rk==3)&&!rg&&D)&&decide (rm=0)&&(E&&F))
 generalize(lk==3)=A
 generalize(rk==3)=B
 generalize decide (rm=0)=G
 rw[Bool.eq_iff_iff]
 simp only[Bool.and_eq_true,Bool.true_eq_false,and_true]
 constructor<;>(intro h;simp_all)
theorem ins_sides(M:Nat)(t:Nd)(d:Int)(h0:¬t.mode=0)(hm:t.mode=1∨t.mode=2∨t.mode=3)(l r:Nd)(hk:t.kids=[l,r]):insD (M+1) t d=(sideB l&&sideB r&&decide (r.mode=0)&&(insD M l d&&insD M r d)):=by
 rw[insD,if_neg h0,if_pos hm,hk]
theorem ins_none(M:Nat)(t:Nd)(d:Int)(h0:¬t.mode=0)(h:¬(1≤t.mode∧t.mode≤3∧t.kids.length=2)):insD (M+1) t d=false:=by
 rw[insD,if_neg h0]
 split
 ·rename_i hq
  split
  ·rename_i l r hl
   exact absurd ⟨by omega,by omega,by rw[hl];rfl⟩ h
  ·rfl
 ·rfl
theorem class_d(M:Nat):ClsC M:=by
 induction M with
 |zero=>intro t v B w d hz;cases t;rw[Nd.sz]at hz;omega
 |succ M ih=>
  intro t v B w d hz hs hv hB h0 h1
  obtain⟨k,m,a,b,g,n,s,ks,ta,tc,ka,kc,rfl,rfl,_,_,_,hk1,hk2,hk3,hkv⟩:=hv.open
  rw[shortN]at hs
  rw[Nd.sz]at hz
  have hk2':kc≤9223372036854775807:=hk2
  by_cases c3:k=3
  rotate_left
  ·rw[cls_no (t:=.mk k m a b g n s ks) (fun q=>c3 q.1)];exact class_kind k m a b g n ta s.length tc ka ks.length kc d w c3
  subst c3
  by_cases hd:d≤50
  rotate_left
  ·rw[cls_no (t:=.mk 3 m a b g n s ks) (fun q=>hd q.2.1)];exact class_deep m a b g n ta s.length tc ka ks.length kc d w hd
  cases ho:othersZ (.mk 3 m a b g n s ks)with
  |false=>rw[cls_no (t:=.mk 3 m a b g n s ks) (fun q=>by rw[ho]at q;exact absurd q.2.2 (by decide))];exact class_bare m a b g n ta s.length tc ka ks.length kc d w hd ((oz_3 m a b g n s ks).trans ho)
  |true=>
   rw[cls_yes rfl hd ho]
   have hb:=(oz_3 m a b g n s ks).trans ho
   by_cases hm:m=0
   ·subst hm
    exact class_union M ih a b g n ta s.length tc ka ks.length kc ks B d w h0 hd hb rfl (by omega) hkv hB (by omega) hs.2
   by_cases hm2:1≤m∧m≤3∧ks.length=2
   rotate_left
   ·have e:insD (M+1) (.mk 3 m a b g n s ks) d=false:=ins_none M _ d hm hm2
    rw[e]
    exact class_bad m a b g n ta s.length tc ka ks.length kc d w hd hb hm hm2
   obtain⟨q1,q2,q3⟩:=hm2
   match ks,hkv,q3,hz,hs,hb,hk1,hv with
   |[l,r],hkv,q3,hz,hs,hb,hk1,hv=>
    obtain⟨kb,ko,rfl,hK⟩:=hkv.some (by simp)
    obtain⟨vl,hL,nl⟩:=hK.2 0 l rfl
    obtain⟨vr,hR,nr⟩:=hK.2 1 r rfl
    obtain⟨lk,lm,la,lb,lg,ln,ls,lks,lsa,lsc,lao,lcap,rfl,rfl,_⟩:=nl.open
    obtain⟨rk,rm,ra,rb,rg,rn,rs,rks,rsa,rsc,rao,rcap,rfl,rfl,_⟩:=nr.open
    have e:insD (M+1) (.mk 3 m a b g n s [.mk lk lm la lb lg ln ls lks,.mk rk rm ra rb rg rn rs rks]) d=(sideB (.mk lk lm la lb lg ln ls lks)&&sideB (.mk rk rm ra rb rg rn rs rks)&&decide ((Nd.mk rk rm ra rb rg rn rs rks).mode=0)&&(insD M (.mk lk lm la lb lg ln ls lks) d&&insD M (.mk rk rm ra rb rg rn rs rks) d)):=ins_sides M (.mk 3 m a b g n s [.mk lk lm la lb lg ln ls lks,.mk rk rm ra rb rg rn rs rks]) d hm (show m=1∨m=2∨m=3 by omega) _ _ rfl
    rw[e,←cls_pair M lk lm la lb rk rm ra rb lg rg ln rn ls rs lks rks d hd]
    rw[shortL,shortL]at hs
    rw[szL,szL,szL]at hz
    exact class_sides m a b g n ta s.length tc kb ko kc lk lm la lb rk rm ra rb lg rg ln rn lsa lao rsa rao ls.length lsc lks.length lcap rs.length rsc rks.length rcap _ _ d w hd hb q1 q2 ⟨hk1,hk2'⟩ (by simpa using hL) (by simpa using hR) (Nat.lt_of_lt_of_le hK.1 hB)
     (fun W hW=>ih _ _ B W d (by omega) hs.2.1 (nl.on hW hB) (Nat.le_trans hB hW.size) h0 h1) (fun W hW=>ih _ _ B W d (by omega) hs.2.2.1 (nr.on hW hB) (Nat.le_trans hB hW.size) h0 h1)
end Go.Proofs.YtbbeciofgnkggaaGreatDoor.tre
namespace Go.Proofs.YtbbeciofgnkggaaGreatDoor.tre
open Go.RowKit nod tok
open rng(R RV ret_int ret_bool info_parts own_below')
theorem infoStr:(Tryz.prog.info? 9).map (fun i=>(i.zero,i.size,i.bytes))=some (some (.string ⟨#[]⟩),1,16):=by kernel_rfl
/--The checker in block pb: how many groups, and their names. -/
structure CkAt(base:Nat)(w:World)(pb:Nat)(c:Ck):Prop where
 row:∃v,Bk w pb #[.int .i64 c.1,v] 42∧w.ownsRow base 9 1 v c.2.length (c.2.map Value.string)
 g0:0≤c.1
 g1:c.1≤20
 few:(c.2.length:Int)≤c.1
 b:base≤pb
theorem CkAt.on{base:Nat}{w w':World}{pb:Nat}{c:Ck}(h:CkAt base w pb c)(hb:Below w.heap.size w w'):CkAt base w' pb c:=by
 obtain⟨⟨v,h1,h2⟩,h3,h4,h5,h6⟩:=h
 exact⟨⟨v,h1.on hb,own_below' h2 hb⟩,h3,h4,h5,h6⟩
/--What becomes of it: it goes on, or tells no. -/
def Nx(base pb:Nat)(P:Option Ck)(w':World):Prop:=∀c',P=some c'→CkAt base w' pb c'
theorem nx_none{base pb:Nat}{P:Option Ck}{w':World}(h:P=none):Nx base pb P w':=fun c' e=>by rw[h]at e;cases e
theorem nx_some{base pb:Nat}{P:Option Ck}{c:Ck}{w':World}(h:P=some c)(hc:CkAt base w' pb c):Nx base pb P w':=fun c' e=>by rw[h]at e;cases e;exact hc
/--… and another block of the kind stays. -/
def Nq(base pb q:Nat)(cs:Array Value)(P:Option Ck)(w':World):Prop:=Nx base pb P w'∧(P≠none→Bk w' q cs 25)
theorem nq_none{base pb q:Nat}{cs:Array Value}{P:Option Ck}{w':World}(h:P=none):Nq base pb q cs P w':=⟨nx_none h,fun e=>absurd h e⟩
theorem nq_some{base pb q:Nat}{cs:Array Value}{P:Option Ck}{c:Ck}{w':World}(h:P=some c)(hc:CkAt base w' pb c)(hq:Bk w' q cs 25):Nq base pb q cs P w':=⟨nx_some h hc,fun _=>hq⟩
theorem gput(w:World)(g i:Nat)(u:Value):w.grownBy (w.setCell ⟨g,i,none⟩ u) (some g):=⟨rfl,rfl,rfl,by simp[World.setCell],fun k _ hk=>Below.heap_setCell _ _ _ _ (fun e=>hk (by rw[e]))⟩
theorem own_not{w:World}{t t':TypeId}{B n z pb:Nat}{v:Value}{xs:List Value}{cs:Array Value}(h:w.ownsRow B t z v n xs)(b:Bk w pb cs t')(ht:t≠t'):v.ownBlock=none∨v.ownBlock≠some pb:=by
 rcases h.2 with⟨rfl,_⟩|⟨g,cap,cur,rfl,_,hg,_⟩
 ·exact .inl rfl
 ·refine .inr (fun e=>?_)
  obtain rfl:g=pb:=by simpa[Value.ownBlock]using e
  unfold Bk at b
  rw[hg]at b;cases b;exact ht rfl
/--One group more. -/
theorem ck_put{base:Nat}{w:World}{pb:Nat}{G:Int}{nm:List ByteArray}{v:Value}(h1:Bk w pb #[.int .i64 G,v] 42)(h2:w.ownsRow base 9 1 v nm.length (nm.map Value.string))(x:Int):
  Bk (w.setCell ⟨pb,0,none⟩ (.int .i64 x)) pb #[.int .i64 x,v] 42∧(w.setCell ⟨pb,0,none⟩ (.int .i64 x)).ownsRow base 9 1 v nm.length (nm.map Value.string):=
 ⟨by have:=h1.set 0 (.int .i64 x);simpa using this,h2.kept (gput w pb 0 _) (own_not h2 h1 (by decide))⟩
theorem sz_nil{n:ByteArray}(h:n.size=0):n=⟨#[]⟩:=by
 obtain⟨d⟩:=n
 have:d.size=0:=h
 rw[Array.eq_empty_of_size_eq_zero this]
theorem nil_ne{n:ByteArray}(h:¬n.size=0):(n.toList==[])=false:=by
 rw[beq_eq_false_iff_ne]
 intro e
 apply h
 obtain⟨⟨x⟩⟩:=n
 simp at e
 subst e
 rfl
theorem has_not{l:List ByteArray}{n:ByteArray}(h:∀x∈l,x≠n):Lib.containsS l n=false:=by
 cases e:Lib.containsS l n with
 |false=>rfl
 |true=>exact absurd rfl (h n ((Lib.containsS_iff l n).1 e))
theorem has_yes{l:List ByteArray}{n:ByteArray}(h:n∈l):Lib.containsS l n=true:=(Lib.containsS_iff l n).2 h
theorem own_form{w:World}{B n:Nat}{t:TypeId}{v:Value}{xs:List Value}(h:w.ownsRow B t 1 v n xs):∃na nc,v=.slice na n nc∧n≤nc∧nc≤9223372036854775807∧(na=none→n=0)∧∀a,na=some a→∃g,a=⟨g,0,none⟩∧∀j,j<n→w.cell? ⟨g,j,none⟩=xs[j]?:=by
 rcases h.2 with⟨rfl,rfl⟩|⟨g,cap,cur,rfl,_,_,h1,h2,_⟩
 ·exact⟨none,0,rfl,by omega,by omega,fun _=>rfl,fun a e=>by cases e⟩
 ·exact⟨_,cap,rfl,h1,h2,fun e=>(by cases e),fun a e=>by cases e;exact⟨g,rfl,fun j hj=>h.cellAt j (by omega)⟩⟩
theorem group_d{base:Nat}{w:World}{pb:Nat}{c:Ck}(hC:CkAt base w pb c)(k m a b:Int)(g:Bool)(n:ByteArray)(ta:Option Addr)(tl tc:Nat)(ka:Option Addr)(kl kc:Nat)(st:List R)(ks:List Nd)(q:Nat)(cs:Array Value)(hq:Bk w q cs 25)(hB:base≤w.heap.size)(hn:n.size≤140737488355327):
  Calls Tryz.prog 37 #[.pointer (some ⟨pb,0,none⟩),.agg (n8 k m a b g n ta tl tc ka kl kc)] w fun e w'=>e=.returned (.bool (grpD (.mk k m a b g n st ks) c).isSome)∧Below base w w'∧Nq base pb q cs (grpD (.mk k m a b g n st ks) c) w':=by
 obtain⟨G,nm⟩:=c
 obtain⟨⟨v,hb,hr⟩,g0,g1,hf,hbp⟩:=hC
 dsimp only at hb hr g0 g1 hf
 obtain⟨w0,hw0⟩:∃w0,w.alloc (.cells (n8 k m a b g n ta tl tc ka kl kc) 25)=w0:=⟨_,rfl⟩
 have HW0:Hid (w.alloc (.cells (n8 k m a b g n ta tl tc ka kl kc) 25)=w0):=hw0
 have B0:Below w.heap.size w w0:=by rw[←hw0];exact(Below.refl _ w).alloc (Nat.le_refl _) _
 have HX0:Hid (Bk w0 w.heap.size (n8 k m a b g n ta tl tc ka kl kc) 25):=by unfold Hid;rw[←hw0];exact Bk.new w _ _
 have HQ0:Hid (Bk w0 q cs 25):=hq.on B0
 have hnq:q≠pb:=fun e=>by subst e;unfold Bk at hq hb;rw[hq]at hb;cases hb
 have HK0:Hid (Bk w0 pb #[.int .i64 G,v] 42):=hb.on B0
 have HR0:Hid (w0.ownsRow base 9 1 v nm.length (nm.map Value.string)):=own_below' hr B0
 have HB0:Hid (Below base w w0):=below_less B0 hB
 have HL:Hid (pb<w.heap.size):=hb.lt
 have HBP:Hid (base≤pb):=hbp
 have HCK:Hid (CkAt base w0 pb (G,nm)):=⟨⟨v,hb.on B0,own_below' hr B0⟩,g0,g1,hf,hbp⟩
 have HF:Hid ((nm.length:Int)≤G):=hf
 have HN:Hid (n.size≤140737488355327):=hn
 have HB:Hid (base≤w.heap.size):=hB
 have hgr:grpD (.mk k m a b g n st ks) (G,nm)=if a=0∧n.size=0 then some (G,nm)else if a≠G+1∨20<a then none else if n.size=0 then some (G+1,nm)else if isN n=true∧Lib.containsS nm n=false then some (G+1,nm++[n])else none:=rfl
 obtain⟨P,hP⟩:∃P,grpD (.mk k m a b g n st ks) (G,nm)=P:=⟨_,rfl⟩
 have HP:Hid ((if a=0∧n.size=0 then some (G,nm)else if a≠G+1∨20<a then none else if n.size=0 then some (G+1,nm)else if isN n=true∧Lib.containsS nm n=false then some (G+1,nm++[n])else none)=P):=hgr.symm.trans hP
 rw[hP]
 clear hP hgr hw0 B0 hb hr hf hbp hB hn
 have x0:=HX0.out.cell 2 (u:=.int .i64 a) rfl
 have x5:=HX0.out.cell 5 (u:=.string n) rfl
 have hne:w.heap.size≠pb:=by have:=HL.out;omega
 by_cases ha:a=0
 ·subst ha
  go_enter Tryz.func37,Tryz.ntmps37
  go_upto_region 1 with fail
  rw[HW0.out]
  clear HW0
  by_cases hz:n.size=0
  ·obtain rfl:n=⟨#[]⟩:=sz_nil hz
   have HE:Hid (P=some (G,nm)):=HP.out.symm.trans (if_pos ⟨rfl,rfl⟩)
   clear HP
   go_wp2
   go_ret
   exact⟨rt_bool (by rw[HE.out];rfl),HB0.out,nq_some HE.out HCK.out HQ0.out⟩
  ·have q1:(n.toList==[])=false:=nil_ne hz
   have q2:¬n.toList=[]:=by simpa using q1
   have HE:Hid (P=none):=HP.out.symm.trans ((if_neg (fun q=>hz q.2)).trans (if_pos (.inl (by omega))))
   clear HP
   go_wp2
   go_ret
   exact⟨rt_bool (by rw[HE.out];rfl),HB0.out,nq_none HE.out⟩
 have za:(a==0)=false:=by simp[ha]
 obtain⟨W1,hW1⟩:∃W1,w0.setCell ⟨pb,0,none⟩ (.int .i64 (G+1))=W1:=⟨_,rfl⟩
 obtain⟨k1,r1⟩:=ck_put HK0.out HR0.out (G+1)
 rw[hW1]at k1 r1
 have HX1:Hid (Bk W1 w.heap.size (n8 k m a b g n ta tl tc ka kl kc) 25):=by unfold Hid;rw[←hW1];exact HX0.out.apart hne _
 have HQ1:Hid (Bk W1 q cs 25):=by unfold Hid;rw[←hW1];exact HQ0.out.apart hnq _
 have HB1:Hid (Below base w W1):=by unfold Hid;rw[←hW1];exact HB0.out.setCell HBP.out _
 have HZ1:Hid (w.heap.size<W1.heap.size):=HX1.out.lt
 have HK1:Hid (Bk W1 pb #[.int .i64 (G+1),v] 42):=k1
 have HR1:Hid (W1.ownsRow base 9 1 v nm.length (nm.map Value.string)):=r1
 have HW1:Hid (w0.setCell ⟨pb,0,none⟩ (.int .i64 (G+1))=W1):=hW1
 have k0:=HK0.out.cell 0 rfl
 have e0:=HK0.out.frozen 0
 clear hW1 k1 r1
 go_enter Tryz.func37,Tryz.ntmps37
 go_upto_region 1 with fail
 rw[HW0.out]
 clear HW0
 go_upto_region 4 with fail
 rw[HW1.out]
 clear HW1 k0 e0 x0 x5 HX0 HK0 HR0 HB0 HCK
 have x0:=HX1.out.cell 2 (u:=.int .i64 a) rfl
 have x5:=HX1.out.cell 5 (u:=.string n) rfl
 have k0:=HK1.out.cell 0 (u:=.int .i64 (G+1)) rfl
 have k1:=HK1.out.cell 1 (u:=v) rfl
 have HSd:Hid (∀w',Below W1.heap.size W1 w'→w'.cell? ⟨w.heap.size,2,none⟩=some (.int .i64 a)∧w'.cell? ⟨w.heap.size,5,none⟩=some (.string n)∧w'.cell? ⟨pb,0,none⟩=some (.int .i64 (G+1))∧w'.cell? ⟨pb,1,none⟩=some v):=fun w' d=>⟨(HX1.out.on d).cell 2 rfl,(HX1.out.on d).cell 5 rfl,(HK1.out.on d).cell 0 rfl,(HK1.out.on d).cell 1 rfl⟩
 have HP1:Hid ((if a≠G+1∨20<a then none else if n.size=0 then some (G+1,nm)else if isN n=true∧Lib.containsS nm n=false then some (G+1,nm++[n])else none)=P):=(if_neg (fun q=>ha q.1)).symm.trans HP.out
 clear HP
 by_cases hc:a≠G+1∨20<a
 ·have HE:Hid (P=none):=HP1.out.symm.trans (if_pos hc)
  clear HP1
  have hcc:¬a=G+1∨(a=G+1∧20<G+1):=by omega
  clear hc
  rcases hcc with hc|⟨rfl,hc⟩
  ·have y1:(a==G+1)=false:=by simp[hc]
   have y2:(a !=G+1)=true:=by simp[hc]
   refine lin.UH.begin (S:=fun w'=>w'.cell? ⟨w.heap.size,2,none⟩=some (.int .i64 a)∧w'.cell? ⟨w.heap.size,5,none⟩=some (.string n)∧w'.cell? ⟨pb,0,none⟩=some (.int .i64 (G+1))∧w'.cell? ⟨pb,1,none⟩=some v) (by kernel_rfl) (HSd.out _ (Below.refl _ _).drew) (fun hHeld=>?_)
   iterate 8
    refine lin.UH.take (v:=?_) rfl (by kernel_rfl) (fun _ _ _ h=>h) (by rfl) ?_ (by assumption) ?_
    rotate_left
    ·(intro w' hSw;(try dsimp only at hSw);go_simp;try with_reducible rfl)
    try simp only[Act.put,lin.sm]
   iterate 5
    refine lin.UH.skip rfl (by kernel_rfl) (fun _ _ _ h=>h) (by kernel_rfl) (by assumption) ?_
    try simp only[Act.put,lin.sm]
   iterate 1
    refine lin.UH.take (v:=?_) rfl (by kernel_rfl) (fun _ _ _ h=>h) (by rfl) ?_ (by assumption) ?_
    rotate_left
    ·(intro w' hSw;(try dsimp only at hSw);go_simp;try with_reducible rfl)
    try simp only[Act.put,lin.sm]
   refine lin.UH.fin (by kernel_rfl) ?_
   go_wp2
   go_ret
   exact⟨rt_bool (by rw[HE.out];rfl),HB1.out.drew,nq_none HE.out⟩
  ·have y3:decide (20<G+1)=true:=by simpa using hc
   refine lin.UH.begin (S:=fun w'=>w'.cell? ⟨w.heap.size,2,none⟩=some (.int .i64 (G+1))∧w'.cell? ⟨w.heap.size,5,none⟩=some (.string n)∧w'.cell? ⟨pb,0,none⟩=some (.int .i64 (G+1))∧w'.cell? ⟨pb,1,none⟩=some v) (by kernel_rfl) (HSd.out _ (Below.refl _ _).drew) (fun hHeld=>?_)
   iterate 14
    refine lin.UH.take (v:=?_) rfl (by kernel_rfl) (fun _ _ _ h=>h) (by rfl) ?_ (by assumption) ?_
    rotate_left
    ·(intro w' hSw;(try dsimp only at hSw);go_simp;try with_reducible rfl)
    try simp only[Act.put,lin.sm]
   refine lin.UH.fin (by kernel_rfl) ?_
   go_wp2
   go_ret
   exact⟨rt_bool (by rw[HE.out];rfl),HB1.out.drew,nq_none HE.out⟩
 have HP2:Hid ((if n.size=0 then some (G+1,nm)else if isN n=true∧Lib.containsS nm n=false then some (G+1,nm++[n])else none)=P):=(if_neg hc).symm.trans HP1.out
 clear HP1
 have hG20:¬20<G+1:=by omega
 obtain rfl:a=G+1:=by omega
 clear hc ha
 refine lin.UH.begin (S:=fun w'=>w'.cell? ⟨w.heap.size,2,none⟩=some (.int .i64 (G+1))∧w'.cell? ⟨w.heap.size,5,none⟩=some (.string n)∧w'.cell? ⟨pb,0,none⟩=some (.int .i64 (G+1))∧w'.cell? ⟨pb,1,none⟩=some v) (by kernel_rfl) (HSd.out _ (Below.refl _ _).drew) (fun hHeld=>?_)
 iterate 14
  refine lin.UH.take (v:=?_) rfl (by kernel_rfl) (fun _ _ _ h=>h) (by rfl) ?_ (by assumption) ?_
  rotate_left
  ·(intro w' hSw;(try dsimp only at hSw);go_simp;try with_reducible rfl)
  try simp only[Act.put,lin.sm]
 refine lin.UH.fin (by kernel_rfl) ?_
 obtain⟨Wd,hWd⟩:∃Wd,W1.drew=Wd:=⟨_,rfl⟩
 have bd:Below W1.heap.size W1 Wd:=by rw[←hWd];exact(Below.refl _ _).drew
 rw[hWd]
 clear hWd hHeld x0 x5 k0 k1 HSd
 have HX2:Hid (Bk Wd w.heap.size (n8 k m (G+1) b g n ta tl tc ka kl kc) 25):=HX1.out.on bd
 have HQ2:Hid (Bk Wd q cs 25):=HQ1.out.on bd
 have HK2:Hid (Bk Wd pb #[.int .i64 (G+1),v] 42):=HK1.out.on bd
 have HR2:Hid (Wd.ownsRow base 9 1 v nm.length (nm.map Value.string)):=own_below' HR1.out bd
 have HB2:Hid (Below base w Wd):=HB1.out.trans (below_less bd (Nat.le_of_lt (Nat.lt_of_le_of_lt HB.out HZ1.out)))
 clear bd HX1 HK1 HR1 HB1 HZ1
 have x5:=HX2.out.cell 5 (u:=.string n) rfl
 by_cases hz:n.size=0
 ·obtain rfl:n=⟨#[]⟩:=sz_nil hz
  have HE:Hid (P=some (G+1,nm)):=HP2.out.symm.trans (if_pos rfl)
  clear HP2
  have HCK:Hid (CkAt base Wd pb (G+1,nm)):=⟨⟨v,HK2.out,HR2.out⟩,(by show 0≤G+1;omega),(by show G+1≤20;omega),(by have:=HF.out;show(nm.length:Int)≤G+1;omega),HBP.out⟩
  go_wp2
  go_ret
  exact⟨rt_bool (by rw[HE.out];rfl),HB2.out,nq_some HE.out HCK.out HQ2.out⟩
 have HP3:Hid ((if isN n=true∧Lib.containsS nm n=false then some (G+1,nm++[n])else none)=P):=(if_neg hz).symm.trans HP2.out
 clear HP2
 have q1:(n.toList==[])=false:=nil_ne hz
 have q2:¬n.toList=[]:=by simpa using q1
 obtain⟨na,nc,rfl,hc1,hc2,hc3,hc4⟩:=own_form HR2.out
 obtain⟨NL,hNL⟩:∃NL,nm.length=NL:=⟨_,rfl⟩
 have HNL:Hid (nm.length=NL):=hNL
 rw[hNL]at HR2 HK2 hc1 hc3 hc4 HF
 have HC4:Hid (∀a,na=some a→∃g,a=⟨g,0,none⟩∧∀j,j<NL→Wd.cell? ⟨g,j,none⟩=(nm.map Value.string)[j]?):=hc4
 have HC3:Hid (na=none→NL=0):=hc3
 have hnl:NL≤20:=by have:=HF.out;omega
 clear hNL hz hc3 hc4
 have k1:=HK2.out.cell 1 rfl
 go_upto_region 8 with fail
 go_wp2
 go_loopw[42](fun i wr=>∃j:Nat,j≤NL∧i=.int .i64 j∧Hid (∀x∈nm.take j,x≠n)∧wr=Wd)(fun i _=>NL-(intOf i).toNat)
 case atStart=>exact⟨0,Nat.zero_le _,rfl,fun x h=>by simp at h,rfl⟩
 case round=>
  obtain⟨j,hj,rfl,HA,rfl⟩:=hrel
  by_cases hlt:j<NL
  ·have hlt':(j:Int)<(NL:Int):=by omega
   obtain⟨x,hx⟩:=getX HNL.out hlt
   obtain⟨ad,rfl⟩:∃ad,na=some ad:=by
    cases na with
    |none=>have:=HC3.out rfl;omega
    |some ad=>exact⟨ad,rfl⟩
   obtain⟨gb,rfl,hcell⟩:=HC4.out ad rfl
   have y0:=hcell j hlt
   rw[List.getElem?_map,hx,Option.map_some]at y0
   have HMEM:Hid (x∈nm):=List.mem_of_getElem? hx
   have HTK:Hid (nm.take (j+1)=nm.take j++[x]):=takeX hx
   clear hcell hx
   by_cases hxn:x=n
   ·subst hxn
    have HE:Hid (P=none):=HP3.out.symm.trans (if_neg (fun q=>by rw[has_yes HMEM.out]at q;exact absurd q.2 (by decide)))
    clear HP3 HMEM HTK HA
    go_wp2
    go_ret
    exact⟨rt_bool (by rw[HE.out];rfl),HB2.out,nq_none HE.out⟩
   ·have z1:(x.toList==n.toList)=false:=str_ne hxn
    have z2:¬x.toList=n.toList:=by simpa using z1
    have HA2:Hid (∀y∈nm.take (j+1),y≠n):=fun y hy=>by
     rw[HTK.out]at hy
     rcases List.mem_append.1 hy with hy|hy
     ·exact HA.out y hy
     ·simp at hy;subst hy;exact hxn
    clear HA HTK HMEM hxn
    go_wp2
    go_roundw
    case rel=>exact⟨j+1,by omega,by go_num,HA2,(by first|rfl|trivial)⟩
    case measure=>simp[intOf];omega
  ·obtain rfl:NL=j:=by omega
   have HCN:Hid (Lib.containsS nm n=false):=has_not fun x hx=>HA.out x (by rw[List.take_of_length_le (by rw[HNL.out];exact Nat.le_refl _)];exact hx)
   have HP4:Hid ((if isN n=true then some (G+1,nm++[n])else none)=P):=by
    unfold Hid
    rw[←HP3.out]
    by_cases hi:isN n=true
    ·rw[if_pos hi,if_pos ⟨hi,HCN.out⟩]
    ·rw[if_neg hi,if_neg (fun q=>hi q.1)]
   clear HP3 HA HCN HC4 HC3 hc1
   have x5:=HX2.out.cell 5 (u:=.string n) rfl
   have k1:=HK2.out.cell 1 rfl
   go_upto_region 14 with fail
   refine wp_region_noPanic (lin.wp_region_k 11 (fun w'=>w'.cell? ⟨w.heap.size,5,none⟩=some (.string n)∧w'.cell? ⟨pb,1,none⟩=some (.slice na NL nc)) (by kernel_rfl) ⟨x5,k1⟩ fun hHeld=>?_)
   clear x5 k1
   refine lin.tK 0 (v:=?_) ?_
   try simp only[Act.put,lin.sm]
   refine lin.tK 1 (v:=?_) ?_
   try simp only[Act.put,lin.sm]
   refine lin.tK 2 (v:=?_) ?_
   try simp only[Act.put,lin.sm]
   refine lin.tK 3 (v:=?_) ?_
   try simp only[Act.put,lin.sm]
   refine lin.tK 4 (v:=?_) ?_
   try simp only[Act.put,lin.sm]
   refine lin.tK 5 (v:=?_) ?_
   try simp only[Act.put,lin.sm]
   refine lin.tK 6 (v:=?_) ?_
   try simp only[Act.put,lin.sm]
   obtain⟨i0,hi,hz0,hz1,hz2⟩:=info_parts infoStr
   obtain⟨We,hWe⟩:∃We,(wr.alloc (.cells #[.string n] 9)).drew=We:=⟨_,rfl⟩
   have BE:Below wr.heap.size wr We:=by rw[←hWe];exact((Below.refl _ _).alloc (Nat.le_refl _) _).drew
   have NE:Bk We wr.heap.size #[.string n] 9:=by rw[←hWe];exact(Bk.new _ _ _).on (Below.refl _ _).drew
   have HWE:Hid ((wr.alloc (.cells #[.string n] 9)).drew=We):=hWe
   have HXE:Hid (Bk We w.heap.size (n8 k m (G+1) b g n ta tl tc ka kl kc) 25):=HX2.out.on BE
   have HQE:Hid (Bk We q cs 25):=HQ2.out.on BE
   have HKE:Hid (Bk We pb #[.int .i64 (G+1),.slice na NL nc] 42):=HK2.out.on BE
   have hre:=own_below' HR2.out BE
   have HBE:Hid (Below base w We):=HB2.out.trans (below_less BE (Nat.le_trans HB.out HB2.out.size))
   have hbe:base≤We.heap.size:=Nat.le_trans HB.out HBE.out.size
   clear hWe BE HX2 HK2 HR2 HB2
   refine lin.wpAnyK_one (j:=7) (by kernel_rfl) (by decide) rfl (fun K hK=>?_)
   go_simp
   rw[HWE.out]
   refine hK.out _ _ ⟨HXE.out.cell 5 rfl,HKE.out.cell 1 rfl⟩ (fun hHeld=>?_)
   clear hK K HWE
   try simp only[Act.put,lin.sm]
   refine lin.wpAnyK_one (j:=8) (by kernel_rfl) (by decide) rfl (fun K hK=>?_)
   refine step_append_lies _ rfl _ _ 40 rfl base 9 i0 (.string ⟨#[]⟩) 1 16 Tryz.underlying40 hi hz0 hz1 hz2 rfl (by decide) (.slice na NL nc) NL (nm.map Value.string) (by simp[Act.eval,Act.put]) hre ⟨wr.heap.size,0,none⟩ 1 1 [.string n] (by simp[Act.eval,Act.put]) rfl (fun j u hj=>by
    match j,hj with
    |0,hj=>simp at hj;subst hj;exact NE.cell 0 rfl
    |j+1,hj=>simp at hj) (fun u hu=>by simp at hu;subst hu;rfl) (by decide) (by unfold maxLen;omega) (by omega) hbe _ rfl ?_
   intro gb cp w4 hown4 hgrow4 _ _
   have hK4:Bk w4 pb #[.int .i64 (G+1),.slice na NL nc] 42:=(hgrow4.block pb HKE.out.lt (fun e=>(own_not hre HKE.out (by decide)).elim (fun q=>by rw[q]at e;cases e) (fun q=>q e.symm))).trans HKE.out
   have hX4:Bk w4 w.heap.size (n8 k m (G+1) b g n ta tl tc ka kl kc) 25:=(hgrow4.block _ HXE.out.lt (fun e=>(own_not hre HXE.out (by decide)).elim (fun q=>by rw[q]at e;cases e) (fun q=>q e.symm))).trans HXE.out
   have hQ4:Bk w4 q cs 25:=(hgrow4.block _ HQE.out.lt (fun e=>(own_not hre HQE.out (by decide)).elim (fun q=>by rw[q]at e;cases e) (fun q=>q e.symm))).trans HQE.out
   have hB4:Below base w w4:=HBE.out.trans ⟨hgrow4.os,hgrow4.tape,hgrow4.output,hgrow4.size,fun i hi=>hgrow4.block i (by omega) (fun e=>by have:=(hre.lt i e.symm).1;omega)⟩
   have HK4:Hid (Bk w4 pb #[.int .i64 (G+1),.slice na NL nc] 42):=hK4
   have hlen:nm.length=NL:=HNL.out
   have HC5:Hid (CkAt base (w4.setCell ⟨pb,1,none⟩ (.slice (some ⟨gb,0,none⟩) (NL+1) cp)) pb (G+1,nm++[n])):=by
    have k5:Bk (w4.setCell ⟨pb,1,none⟩ (.slice (some ⟨gb,0,none⟩) (NL+1) cp)) pb #[.int .i64 (G+1),.slice (some ⟨gb,0,none⟩) (NL+1) cp] 42:=by have:=hK4.set 1 (.slice (some ⟨gb,0,none⟩) (NL+1) cp);simpa using this
    refine⟨⟨_,k5,?_⟩,(by show 0≤G+1;omega),(by show G+1≤20;omega),?_,HBP.out⟩
    ·show(w4.setCell _ _).ownsRow base 9 1 _ (nm++[n]).length ((nm++[n]).map Value.string)
     rw[List.length_append,List.map_append,hlen]
     exact hown4.kept (gput w4 pb 1 _) (own_not hown4 hK4 (by decide))
    ·show((nm++[n]).length:Int)≤G+1
     rw[List.length_append,hlen]
     have:=HF.out
     simp
     omega
   have HB5:Hid (Below base w (w4.setCell ⟨pb,1,none⟩ (.slice (some ⟨gb,0,none⟩) (NL+1) cp))):=hB4.setCell HBP.out _
   have HX5:Hid (Bk (w4.setCell ⟨pb,1,none⟩ (.slice (some ⟨gb,0,none⟩) (NL+1) cp)) w.heap.size (n8 k m (G+1) b g n ta tl tc ka kl kc) 25):=hX4.apart hne _
   have HQ5:Hid (Bk (w4.setCell ⟨pb,1,none⟩ (.slice (some ⟨gb,0,none⟩) (NL+1) cp)) q cs 25):=hQ4.apart hnq _
   clear hQ4
   refine hK.out _ _ ⟨hX4.cell 5 rfl,hK4.cell 1 rfl⟩ (fun hHeld=>?_)
   clear hK K hown4 hgrow4 hX4 hB4 hK4 hre NE hbe hlen HXE HKE HBE
   try simp only[Act.put,lin.sm]
   refine lin.wpAnyK_one (j:=9) (by kernel_rfl) (by decide) rfl (fun K hK=>?_)
   go_simp
   refine hK.out _ _ hHeld (fun hHeld=>?_)
   clear hK K
   try simp only[Act.put,lin.sm]
   refine lin.wpAnyK_one (j:=10) (by kernel_rfl) (by decide) rfl (fun K hK=>?_)
   go_simp
   refine hK.out _ _ hHeld (fun hHeld=>?_)
   clear hK K
   try simp only[Act.put,lin.sm]
   clear hHeld
   have k1:=HK4.out.cell 1 rfl
   have e1:=HK4.out.frozen 1
   refine lin.wpAnyK_last (by kernel_rfl) rfl (fun K hK=>?_)
   go_simp
   refine hK.out _ _ ?_
   clear hK K k1 e1 HK4
   try simp only[Act.put,lin.sm]
   refine⟨by kernel_rfl,?_⟩
   refine NoPanic.normal ?_
   have x5:=HX5.out.cell 5 (u:=.string n) rfl
   have CI:=isName_any n (w4.setCell ⟨pb,1,none⟩ (.slice (some ⟨gb,0,none⟩) (NL+1) cp)) HN.out
   go_wp2_with fail
   refine CI.mono ?_
   rintro e w6⟨rfl,hw6⟩
   rw[hw6]
   clear CI hw6
   by_cases hi:isN n=true
   ·have HE:Hid (P=some (G+1,nm++[n])):=HP4.out.symm.trans (if_pos hi)
    go_wp2
    go_ret
    exact⟨rt_bool (by rw[HE.out];first|rfl|(rw[hi];rfl)),HB5.out,nq_some HE.out HC5.out HQ5.out⟩
   ·have HE:Hid (P=none):=HP4.out.symm.trans (if_neg hi)
    have hi':isN n=false:=by simpa using hi
    go_wp2
    go_ret
    exact⟨rt_bool (by rw[HE.out];first|rfl|(rw[hi'];rfl)),HB5.out,nq_none HE.out⟩
end Go.Proofs.YtbbeciofgnkggaaGreatDoor.tre
