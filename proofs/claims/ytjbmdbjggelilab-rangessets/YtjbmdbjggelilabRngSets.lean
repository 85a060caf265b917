/- The walk of RangesSets. -/
import Derived.Test.YtjbmdbjggelilabRngLaws
set_option linter.unusedVariables false
set_option linter.unusedSimpArgs false
namespace Go.Proofs.Ytjbmdbjggelilab.rng
open Go.RowKit

set_option maxHeartbeats 4000000 in
theorem law_sets (va : Value) (la : List R) (vb : Value) (lb : List R) (w : World) (ha : Arg w va la) (hb : Arg w vb lb) :
    Calls Try.prog 3 #[va, vb] w fun e w' => e = .returned (.bool true) ∧ Below w.heap.size w w' := by
  have Ca := fun W (h : Arg W va la) => short_s va la W h
  have Ha : Hid (Arg w va la) := ha
  have Na := take40 la
  have HN_a : Hid ((la.take 40).length ≤ 1000000) := Na
  clear ha Na
  have Cb := fun W (h : Arg W vb lb) => short_s vb lb W h
  have Hb : Hid (Arg w vb lb) := hb
  have Nb := take40 lb
  have HN_b : Hid ((lb.take 40).length ≤ 1000000) := Nb
  clear hb Nb
  go_enter Try.func3, Try.ntmps3
  go_wp2_with fail
  refine (Ca _ Ha.out).mono ?_
  rintro e wz ⟨vaa, rfl, hsa, hz⟩
  subst hz
  have Sa : Hid (Sl _ vaa (la.take 40)) := hsa
  clear hsa Ca
  go_wp2_with fail
  refine (Cb _ Hb.out).mono ?_
  rintro e wz ⟨vab, rfl, hsb, hz⟩
  subst hz
  have Sb : Hid (Sl _ vab (lb.take 40)) := hsb
  clear hsb Cb
  obtain ⟨a, ea⟩ : ∃ x, la.take 40 = x := ⟨_, rfl⟩
  rw [ea] at Sa HN_a
  clear ea Ha
  obtain ⟨b, eb⟩ : ∃ x, lb.take 40 = x := ⟨_, rfl⟩
  rw [eb] at Sb HN_b
  clear eb Hb
  have hb := Below.refl (World.heap ‹World›).size ‹World›
  go_wp2_with fail
  refine (make_s vaa a _ Sa.out HN_a.out).mono ?_
  rintro e w1 ⟨vp0, p0, rfl, sp0, i_p0, d⟩
  replace Sa : Hid (Sl w1 vaa a) := Sa.out.below d
  replace Sb : Hid (Sl w1 vab b) := Sb.out.below d
  replace hb := hb.trans (d.mono hb.size)
  have Sp0 : Hid (Sl w1 vp0 p0) := sp0
  have HN_p0 : Hid (p0.length ≤ 1000000) := by unfold Hid; have := can_len i_p0.1; omega
  have Ip0 := i_p0
  clear sp0 i_p0 d
  have Jp0 : Hid (IsSet p0 _) := Ip0
  clear Ip0
  go_wp2_with fail
  refine (union_s vaa vab a b _ Sa.out Sb.out HN_a.out HN_b.out).mono ?_
  rintro e w2 ⟨vp1, p1, rfl, sp1, i_p1, d⟩
  replace Sa : Hid (Sl w2 vaa a) := Sa.out.below d
  replace Sb : Hid (Sl w2 vab b) := Sb.out.below d
  replace Sp0 : Hid (Sl w2 vp0 p0) := Sp0.out.below d
  replace hb := hb.trans (d.mono hb.size)
  have Sp1 : Hid (Sl w2 vp1 p1) := sp1
  have HN_p1 : Hid (p1.length ≤ 1000000) := by unfold Hid; have := can_len i_p1.1; omega
  have Ip1 := i_p1
  clear sp1 i_p1 d
  have Jp1 : Hid (IsSet p1 _) := Ip1
  clear Ip1
  go_wp2_with fail
  refine (meet_s vaa vab a b _ Sa.out Sb.out HN_a.out HN_b.out).mono ?_
  rintro e w3 ⟨vp2, p2, rfl, sp2, i_p2, d⟩
  replace Sa : Hid (Sl w3 vaa a) := Sa.out.below d
  replace Sb : Hid (Sl w3 vab b) := Sb.out.below d
  replace Sp0 : Hid (Sl w3 vp0 p0) := Sp0.out.below d
  replace Sp1 : Hid (Sl w3 vp1 p1) := Sp1.out.below d
  replace hb := hb.trans (d.mono hb.size)
  have Sp2 : Hid (Sl w3 vp2 p2) := sp2
  have HN_p2 : Hid (p2.length ≤ 1000000) := by unfold Hid; have := can_len i_p2.1; omega
  have Ip2 := i_p2
  clear sp2 i_p2 d
  have Jp2 : Hid (IsSet p2 _) := Ip2
  clear Ip2
  go_wp2_with fail
  refine (minus_s vaa vab a b _ Sa.out Sb.out HN_a.out HN_b.out).mono ?_
  rintro e w4 ⟨vp3, p3, rfl, sp3, i_p3, d⟩
  replace Sa : Hid (Sl w4 vaa a) := Sa.out.below d
  replace Sb : Hid (Sl w4 vab b) := Sb.out.below d
  replace Sp0 : Hid (Sl w4 vp0 p0) := Sp0.out.below d
  replace Sp1 : Hid (Sl w4 vp1 p1) := Sp1.out.below d
  replace Sp2 : Hid (Sl w4 vp2 p2) := Sp2.out.below d
  replace hb := hb.trans (d.mono hb.size)
  have Sp3 : Hid (Sl w4 vp3 p3) := sp3
  have HN_p3 : Hid (p3.length ≤ 1000000) := by unfold Hid; have := can_len i_p3.1; omega
  have Ip3 := i_p3
  clear sp3 i_p3 d
  have Jp3 : Hid (IsSet p3 _) := Ip3
  clear Ip3
  go_wp2_with fail
  refine (xor_s vaa vab a b _ Sa.out Sb.out HN_a.out HN_b.out).mono ?_
  rintro e w5 ⟨vp4, p4, rfl, sp4, i_p4, d⟩
  replace Sa : Hid (Sl w5 vaa a) := Sa.out.below d
  replace Sb : Hid (Sl w5 vab b) := Sb.out.below d
  replace Sp0 : Hid (Sl w5 vp0 p0) := Sp0.out.below d
  replace Sp1 : Hid (Sl w5 vp1 p1) := Sp1.out.below d
  replace Sp2 : Hid (Sl w5 vp2 p2) := Sp2.out.below d
  replace Sp3 : Hid (Sl w5 vp3 p3) := Sp3.out.below d
  replace hb := hb.trans (d.mono hb.size)
  have Sp4 : Hid (Sl w5 vp4 p4) := sp4
  have HN_p4 : Hid (p4.length ≤ 1000000) := by unfold Hid; have := can_len i_p4.1; omega
  have Ip4 := i_p4
  clear sp4 i_p4 d
  have Jp4 : Hid (IsSet p4 _) := Ip4
  clear Ip4
  go_wp2_with fail
  refine (not_s vaa a _ Sa.out HN_a.out).mono ?_
  rintro e w6 ⟨vp5, p5, rfl, sp5, i_p5, d⟩
  replace Sa : Hid (Sl w6 vaa a) := Sa.out.below d
  replace Sb : Hid (Sl w6 vab b) := Sb.out.below d
  replace Sp0 : Hid (Sl w6 vp0 p0) := Sp0.out.below d
  replace Sp1 : Hid (Sl w6 vp1 p1) := Sp1.out.below d
  replace Sp2 : Hid (Sl w6 vp2 p2) := Sp2.out.below d
  replace Sp3 : Hid (Sl w6 vp3 p3) := Sp3.out.below d
  replace Sp4 : Hid (Sl w6 vp4 p4) := Sp4.out.below d
  replace hb := hb.trans (d.mono hb.size)
  have Sp5 : Hid (Sl w6 vp5 p5) := sp5
  have HN_p5 : Hid (p5.length ≤ 1000000) := by unfold Hid; have := can_len i_p5.1; omega
  have Ip5 := i_p5
  clear sp5 i_p5 d
  have Jp5 : Hid (IsSet p5 _) := Ip5
  clear Ip5
  obtain ⟨a0, c0, e0, _⟩ := Sp0.out
  subst e0
  obtain ⟨a1, c1, e1, _⟩ := Sp1.out
  subst e1
  obtain ⟨a2, c2, e2, _⟩ := Sp2.out
  subst e2
  obtain ⟨a3, c3, e3, _⟩ := Sp3.out
  subst e3
  obtain ⟨a4, c4, e4, _⟩ := Sp4.out
  subst e4
  obtain ⟨a5, c5, e5, _⟩ := Sp5.out
  subst e5
  have K0 : Hid (∀ r, r ∈ [p0, p1, p2, p3, p4, p5] → canB 0 r = true) := fun r hr => by
    simp only [List.mem_cons, List.mem_nil_iff, or_false] at hr
    rcases hr with rfl | rfl | rfl | rfl | rfl | rfl
    · exact (canB_iff _ _).2 Jp0.out.1
    · exact (canB_iff _ _).2 Jp1.out.1
    · exact (canB_iff _ _).2 Jp2.out.1
    · exact (canB_iff _ _).2 Jp3.out.1
    · exact (canB_iff _ _).2 Jp4.out.1
    · exact (canB_iff _ _).2 Jp5.out.1
  obtain ⟨wb, hwb⟩ : ∃ wb, w6.alloc (.cells #[(.slice a0 p0.length c0), (.slice a1 p1.length c1), (.slice a2 p2.length c2), (.slice a3 p3.length c3), (.slice a4 p4.length c4), (.slice a5 p5.length c5)] 22) = wb := ⟨_, rfl⟩
  have db : Below w6.heap.size w6 wb := by rw [← hwb]; exact (Below.refl _ _).alloc (Nat.le_refl _) _
  have q0 : wb.cell? ⟨w6.heap.size, 0, none⟩ = some (.slice a0 p0.length c0) := by rw [← hwb]; simp
  have q1 : wb.cell? ⟨w6.heap.size, 1, none⟩ = some (.slice a1 p1.length c1) := by rw [← hwb]; simp
  have q2 : wb.cell? ⟨w6.heap.size, 2, none⟩ = some (.slice a2 p2.length c2) := by rw [← hwb]; simp
  have q3 : wb.cell? ⟨w6.heap.size, 3, none⟩ = some (.slice a3 p3.length c3) := by rw [← hwb]; simp
  have q4 : wb.cell? ⟨w6.heap.size, 4, none⟩ = some (.slice a4 p4.length c4) := by rw [← hwb]; simp
  have q5 : wb.cell? ⟨w6.heap.size, 5, none⟩ = some (.slice a5 p5.length c5) := by rw [← hwb]; simp
  have hsz : w6.heap.size < wb.heap.size := by rw [← hwb]; simp
  replace Sp0 : Hid (Sl wb (.slice a0 p0.length c0) p0) := Sp0.out.below db
  replace Sp1 : Hid (Sl wb (.slice a1 p1.length c1) p1) := Sp1.out.below db
  replace Sp2 : Hid (Sl wb (.slice a2 p2.length c2) p2) := Sp2.out.below db
  replace Sp3 : Hid (Sl wb (.slice a3 p3.length c3) p3) := Sp3.out.below db
  replace Sp4 : Hid (Sl wb (.slice a4 p4.length c4) p4) := Sp4.out.below db
  replace Sp5 : Hid (Sl wb (.slice a5 p5.length c5) p5) := Sp5.out.below db
  replace hb := hb.trans (db.mono hb.size)
  have HW : Hid (w6.alloc (.cells #[(.slice a0 p0.length c0), (.slice a1 p1.length c1), (.slice a2 p2.length c2), (.slice a3 p3.length c3), (.slice a4 p4.length c4), (.slice a5 p5.length c5)] 22) = wb) := hwb
  clear hwb db Sa Sb HN_a HN_b
  go_wp2
  rw [HW.out]
  clear HW
  go_loopw [29] (fun i wr => ∃ k : Nat, k ≤ 6 ∧ i = .int .i64 k ∧ Below wb.heap.size wb wr) (fun i _ => 6 - (intOf i).toNat)
  case atStart => exact ⟨0, by omega, rfl, Below.refl _ _⟩
  case round =>
    obtain ⟨k, hk, rfl, hbel⟩ := hrel
    rcases (show k = 0 ∨ k = 1 ∨ k = 2 ∨ k = 3 ∨ k = 4 ∨ k = 5 ∨ k = 6 by omega) with rfl | rfl | rfl | rfl | rfl | rfl | rfl
    · have hq := (hbel.cell (p := ⟨w6.heap.size, 0, none⟩) hsz).trans q0
      have CC := K0.out p0 (by simp)
      have D1 := fun W (h : Sl W (.slice a0 p0.length c0) p0) => can_s (.slice a0 p0.length c0) p0 W h HN_p0.out
      have D2 := fun W (h : Sl W (.slice a0 p0.length c0) p0) => rcan_s (.slice a0 p0.length c0) p0 W h HN_p0.out
      rw [CC] at D1 D2
      clear q0 q1 q2 q3 q4 q5 CC
      go_wp2_with fail
      refine (D1 _ (Sp0.out.below hbel)).mono ?_
      rintro e w8 ⟨rfl, d⟩
      have hbel1 := hbel.trans (d.mono hbel.size)
      go_wp2_with fail
      refine (D2 _ (Sp0.out.below hbel1)).mono ?_
      rintro e w9 ⟨rfl, d2⟩
      have hbel2 := hbel1.trans (d2.mono hbel1.size)
      clear D1 D2 d d2 hbel1
      go_wp2
      go_roundw
      case rel => exact ⟨1, by omega, by go_num, hbel2⟩
      case measure => simp [intOf]
    · have hq := (hbel.cell (p := ⟨w6.heap.size, 1, none⟩) hsz).trans q1
      have CC := K0.out p1 (by simp)
      have D1 := fun W (h : Sl W (.slice a1 p1.length c1) p1) => can_s (.slice a1 p1.length c1) p1 W h HN_p1.out
      have D2 := fun W (h : Sl W (.slice a1 p1.length c1) p1) => rcan_s (.slice a1 p1.length c1) p1 W h HN_p1.out
      rw [CC] at D1 D2
      clear q0 q1 q2 q3 q4 q5 CC
      go_wp2_with fail
      refine (D1 _ (Sp1.out.below hbel)).mono ?_
      rintro e w8 ⟨rfl, d⟩
      have hbel1 := hbel.trans (d.mono hbel.size)
      go_wp2_with fail
      refine (D2 _ (Sp1.out.below hbel1)).mono ?_
      rintro e w9 ⟨rfl, d2⟩
      have hbel2 := hbel1.trans (d2.mono hbel1.size)
      clear D1 D2 d d2 hbel1
      go_wp2
      go_roundw
      case rel => exact ⟨2, by omega, by go_num, hbel2⟩
      case measure => simp [intOf]
    · have hq := (hbel.cell (p := ⟨w6.heap.size, 2, none⟩) hsz).trans q2
      have CC := K0.out p2 (by simp)
      have D1 := fun W (h : Sl W (.slice a2 p2.length c2) p2) => can_s (.slice a2 p2.length c2) p2 W h HN_p2.out
      have D2 := fun W (h : Sl W (.slice a2 p2.length c2) p2) => rcan_s (.slice a2 p2.length c2) p2 W h HN_p2.out
      rw [CC] at D1 D2
      clear q0 q1 q2 q3 q4 q5 CC
      go_wp2_with fail
      refine (D1 _ (Sp2.out.below hbel)).mono ?_
      rintro e w8 ⟨rfl, d⟩
      have hbel1 := hbel.trans (d.mono hbel.size)
      go_wp2_with fail
      refine (D2 _ (Sp2.out.below hbel1)).mono ?_
      rintro e w9 ⟨rfl, d2⟩
      have hbel2 := hbel1.trans (d2.mono hbel1.size)
      clear D1 D2 d d2 hbel1
      go_wp2
      go_roundw
      case rel => exact ⟨3, by omega, by go_num, hbel2⟩
      case measure => simp [intOf]
    · have hq := (hbel.cell (p := ⟨w6.heap.size, 3, none⟩) hsz).trans q3
      have CC := K0.out p3 (by simp)
      have D1 := fun W (h : Sl W (.slice a3 p3.length c3) p3) => can_s (.slice a3 p3.length c3) p3 W h HN_p3.out
      have D2 := fun W (h : Sl W (.slice a3 p3.length c3) p3) => rcan_s (.slice a3 p3.length c3) p3 W h HN_p3.out
      rw [CC] at D1 D2
      clear q0 q1 q2 q3 q4 q5 CC
      go_wp2_with fail
      refine (D1 _ (Sp3.out.below hbel)).mono ?_
      rintro e w8 ⟨rfl, d⟩
      have hbel1 := hbel.trans (d.mono hbel.size)
      go_wp2_with fail
      refine (D2 _ (Sp3.out.below hbel1)).mono ?_
      rintro e w9 ⟨rfl, d2⟩
      have hbel2 := hbel1.trans (d2.mono hbel1.size)
      clear D1 D2 d d2 hbel1
      go_wp2
      go_roundw
      case rel => exact ⟨4, by omega, by go_num, hbel2⟩
      case measure => simp [intOf]
    · have hq := (hbel.cell (p := ⟨w6.heap.size, 4, none⟩) hsz).trans q4
      have CC := K0.out p4 (by simp)
      have D1 := fun W (h : Sl W (.slice a4 p4.length c4) p4) => can_s (.slice a4 p4.length c4) p4 W h HN_p4.out
      have D2 := fun W (h : Sl W (.slice a4 p4.length c4) p4) => rcan_s (.slice a4 p4.length c4) p4 W h HN_p4.out
      rw [CC] at D1 D2
      clear q0 q1 q2 q3 q4 q5 CC
      go_wp2_with fail
      refine (D1 _ (Sp4.out.below hbel)).mono ?_
      rintro e w8 ⟨rfl, d⟩
      have hbel1 := hbel.trans (d.mono hbel.size)
      go_wp2_with fail
      refine (D2 _ (Sp4.out.below hbel1)).mono ?_
      rintro e w9 ⟨rfl, d2⟩
      have hbel2 := hbel1.trans (d2.mono hbel1.size)
      clear D1 D2 d d2 hbel1
      go_wp2
      go_roundw
      case rel => exact ⟨5, by omega, by go_num, hbel2⟩
      case measure => simp [intOf]
    · have hq := (hbel.cell (p := ⟨w6.heap.size, 5, none⟩) hsz).trans q5
      have CC := K0.out p5 (by simp)
      have D1 := fun W (h : Sl W (.slice a5 p5.length c5) p5) => can_s (.slice a5 p5.length c5) p5 W h HN_p5.out
      have D2 := fun W (h : Sl W (.slice a5 p5.length c5) p5) => rcan_s (.slice a5 p5.length c5) p5 W h HN_p5.out
      rw [CC] at D1 D2
      clear q0 q1 q2 q3 q4 q5 CC
      go_wp2_with fail
      refine (D1 _ (Sp5.out.below hbel)).mono ?_
      rintro e w8 ⟨rfl, d⟩
      have hbel1 := hbel.trans (d.mono hbel.size)
      go_wp2_with fail
      refine (D2 _ (Sp5.out.below hbel1)).mono ?_
      rintro e w9 ⟨rfl, d2⟩
      have hbel2 := hbel1.trans (d2.mono hbel1.size)
      clear D1 D2 d d2 hbel1
      go_wp2
      go_roundw
      case rel => exact ⟨6, by omega, by go_num, hbel2⟩
      case measure => simp [intOf]
    · go_wp2_with fail
      refine (awake_any _).mono ?_
      rintro e wl ⟨rfl, d⟩
      go_wp2
      go_ret
      have hb2 := hb.trans (hbel.mono hb.size)
      exact ⟨rfl, hb2.trans (d.mono hb2.size)⟩
end Go.Proofs.Ytjbmdbjggelilab.rng
