/- Texts that the proof leans on, one behind the other. -/
import Derived.Test.YtcmhkfiijdomiaaGreatDoorBdWrd7
import Derived.OrdersHeld
import Derived.Deep.RegionHeld3

section
/- rubricatorref11.Edge. -/
set_option linter.unusedVariables false
set_option linter.unusedSimpArgs false
namespace Go.Proofs.YtcmhkfiijdomiaaGreatDoor.wrd
open Go.RowKit Go.Maps
open Go.Proofs.YtcmhkfiijdomiaaGreatDoor.lin Go.Proofs.YtcmhkfiijdomiaaGreatDoor.prp

theorem edgeK_bool (bs fs : List Int) : edgeK bs fs = if (hdK bs == 1 && hdK fs == 2) = true then false else if ((hdK bs == 3 || hdK bs == 1 || hdK bs == 2) || (hdK fs == 3 || hdK fs == 1 || hdK fs == 2)) = true then true else if ((hdK bs == 4 && hdK fs == 7) || (hdK bs == 8 && hdK fs == 8) || passB (hdK fs)) = true then false else if joinB (hdK (skip (skip bs).tail)) (hdK (skip bs)) (hdK fs) (hdK (skip fs.tail)) = true then false else !(hdK fs == 19 && flW bs % 2 == 1) := by
  unfold edgeK nearV
  generalize hdK bs = a
  generalize hdK fs = b
  rw [show (a == 3 || a == 1 || a == 2) = lineE a from rfl, show (b == 3 || b == 1 || b == 2) = lineE b from rfl]
  by_cases h1 : a = 1 ∧ b = 2
  · rw [if_pos h1, if_pos rfl, if_pos (by rw [h1.1, h1.2]; rfl)]
  rw [if_neg h1, if_neg (c := (a == 1 && b == 2) = true) (fun h => h1 (by rw [Bool.and_eq_true, beq_iff_eq, beq_iff_eq] at h; exact h))]
  by_cases h2 : lineE a = true ∨ lineE b = true
  · rw [if_pos h2, if_neg (by decide), if_pos rfl, if_pos (by rw [Bool.or_eq_true]; exact h2)]
  rw [if_neg h2, if_neg (c := (lineE a || lineE b) = true) (fun h => h2 (by rw [Bool.or_eq_true] at h; exact h))]
  by_cases h3 : (a = 4 ∧ b = 7) ∨ (a = 8 ∧ b = 8) ∨ passB b = true
  · rw [if_pos h3, if_pos rfl, if_pos (by rw [Bool.or_eq_true, Bool.or_eq_true, Bool.and_eq_true, Bool.and_eq_true, beq_iff_eq, beq_iff_eq, beq_iff_eq, beq_iff_eq, or_assoc]; exact h3)]
  rw [if_neg h3, if_neg (by decide), if_neg (by decide), if_neg (c := ((a == 4 && b == 7) || (a == 8 && b == 8) || passB b) = true) (fun h => h3 (by rw [Bool.or_eq_true, Bool.or_eq_true, Bool.and_eq_true, Bool.and_eq_true, beq_iff_eq, beq_iff_eq, beq_iff_eq, beq_iff_eq, or_assoc] at h; exact h))]
set_option maxHeartbeats 16000000 in
set_option maxRecDepth 1000000 in
theorem redge_in (u : Nat) (ao : Option Addr) (N cap m n : Nat) (l : List Int) (w : World) (h : RTabs w u) (hv : Txt w ao N cap l) (hn : n = m + 1) (hN : n < N) :
    Calls Tryz.prog 13 #[.pointer (some ⟨u, 0, none⟩), .slice ao N cap, .int .i64 (n : Int)] w fun e w' => e = .returned (.bool (edgeK (bk l n) (fw l n))) ∧ Below w.heap.size w w' := by
  obtain ⟨hl, hat⟩ := iv_cells hv.iv
  obtain ⟨x, b0, o, rfl, cx, hx⟩ := hat m (by omega)
  obtain ⟨y, b1, o1, e', cy, hy⟩ := hat n hN
  injection e' with e'
  injection e' with e1 e2
  subst e1 e2
  have hlen := hv.len
  have hA : hdK (bk l n) = kw x := by rw [hn]; exact hd_bk hx
  have hB : hdK (fw l n) = kw y := by rw [fw_cons hy]; rfl
  have hT : (fw l n).tail = fw l (n + 1) := by rw [fw_cons hy]; rfl
  have hS := skip_bk (l := l) (n := n) (by omega)
  have hle := aN_le l n
  rw [edgeK_bool, hA, hB, hT, hS]
  have HWI : Hid (∀ r W, Below w.heap.size w W → Calls Tryz.prog 41 #[.pointer (some ⟨u, 0, none⟩), .int .i64 r] W fun e w' => (∃ A, e = .returned (.string A) ∧ IsW A (kw r)) ∧ Below W.heap.size W w') := fun r W hb => (rword_t u r W (h.below hb)).mono (fun e w' hh => ⟨⟨_, hh.1, isW_wor r⟩, hh.2⟩)
  have HWX : Hid (∀ W, Below w.heap.size w W → Calls Tryz.prog 41 #[.pointer (some ⟨u, 0, none⟩), .int .i64 x] W fun e w' => (∃ A, e = .returned (.string A) ∧ IsW A (kw x)) ∧ Below W.heap.size W w') := fun W hb => HWI.out x W hb
  have HWY : Hid (∀ W, Below w.heap.size w W → Calls Tryz.prog 41 #[.pointer (some ⟨u, 0, none⟩), .int .i64 y] W fun e w' => (∃ A, e = .returned (.string A) ∧ IsW A (kw y)) ∧ Below W.heap.size W w') := fun W hb => HWI.out y W hb
  have HAH : Hid (∀ W, Below w.heap.size w W → Calls Tryz.prog 44 #[.pointer (some ⟨u, 0, none⟩), .slice (some ⟨b0, o, none⟩) N cap, .int .i64 (n : Int)] W fun e w' => e = .returned (.int .i64 (rA l (aN l n))) ∧ Below W.heap.size W w') := fun W hb => rahead_t u _ N cap l n W (h.below hb) (hv.below hb) (by omega)
  have HWA : Hid (∀ W, Below w.heap.size w W → Calls Tryz.prog 45 #[.pointer (some ⟨u, 0, none⟩), .slice (some ⟨b0, o, none⟩) N cap, .int .i64 (rA l (aN l n))] W fun e w' => (∃ A, e = .returned (.string A) ∧ IsW A (nz (hdK (bk l (aN l n))))) ∧ Below W.heap.size W w') := fun W hb => rwA_t u _ N cap l (aN l n) W (h.below hb) (hv.below hb) (by omega)
  have HBF : Hid (∀ W, Below w.heap.size w W → Calls Tryz.prog 47 #[.pointer (some ⟨u, 0, none⟩), .slice (some ⟨b0, o, none⟩) N cap, .int .i64 (rA l (aN l n))] W fun e w' => (∃ A, e = .returned (.string A) ∧ IsW A (if lineE (hdK (bk l (aN l n))) = true ∨ hdK (bk l (aN l n)) < 0 then 0 else nz (hdK (skip (bk l (aN l n)).tail)))) ∧ Below W.heap.size W w') := fun W hb => rbefore_t u _ N cap l (aN l n) W (h.below hb) (hv.below hb) (by omega)
  have HBH : Hid (∀ W, Below w.heap.size w W → Calls Tryz.prog 48 #[.pointer (some ⟨u, 0, none⟩), .slice (some ⟨b0, o, none⟩) N cap, .int .i64 (n : Int)] W fun e w' => (∃ j, e = .returned (.int .i64 j) ∧ PlaceOf l j (nz (hdK (skip (fw l (n + 1)))))) ∧ Below W.heap.size W w') := fun W hb => rbehind_t u _ N cap l n W (h.below hb) (hv.below hb) hN
  have HWP : Hid (∀ W j, PlaceOf l j (nz (hdK (skip (fw l (n + 1))))) → Below w.heap.size w W → Calls Tryz.prog 45 #[.pointer (some ⟨u, 0, none⟩), .slice (some ⟨b0, o, none⟩) N cap, .int .i64 j] W fun e w' => (∃ A, e = .returned (.string A) ∧ IsW A (nz (hdK (skip (fw l (n + 1)))))) ∧ Below W.heap.size W w') := fun W j hp hb => rwP_t u _ N cap l j _ W (h.below hb) (hv.below hb) hp
  have HFG : Hid (∀ W, Below w.heap.size w W → Calls Tryz.prog 49 #[.pointer (some ⟨u, 0, none⟩), .slice (some ⟨b0, o, none⟩) N cap, .int .i64 (n : Int)] W fun e w' => e = .returned (.int .i64 ((flW (bk l n) : Nat) : Int)) ∧ Below W.heap.size W w') := fun W hb => rflags_t u _ N cap l n W (h.below hb) (hv.below hb) (by omega)
  have HJN : Hid (∀ A2 A B B2 W, IsW A2 (if lineE (hdK (bk l (aN l n))) = true ∨ hdK (bk l (aN l n)) < 0 then 0 else nz (hdK (skip (bk l (aN l n)).tail))) → IsW A (nz (hdK (bk l (aN l n)))) → IsW B (kw y) → IsW B2 (nz (hdK (skip (fw l (n + 1))))) → Calls Tryz.prog 46 #[.string A2, .string A, .string B, .string B2] W fun e w' => e = .returned (.bool (joinB (hdK (skip (bk l (aN l n)).tail)) (hdK (bk l (aN l n))) (kw y) (hdK (skip (fw l (n + 1)))))) ∧ Below W.heap.size W w') := fun A2 A B B2 W i1 i2 i3 i4 => by
    have q := joined_any A2 A B B2 _ _ _ _ W i1 i2 i3 i4
    rwa [join_doc] at q
  have hFB : flW (bk l n) ≤ 1000000 := by
    refine Nat.le_trans (flW_le _) ?_
    unfold bk
    rw [List.length_reverse, List.length_map, List.length_take]
    omega
  clear h hv hat hl hx hy hA hB hT hS hle HWI
  generalize joinB (hdK (skip (bk l (aN l n)).tail)) (hdK (bk l (aN l n))) (kw y) (hdK (skip (fw l (n + 1)))) = J at *
  generalize (if lineE (hdK (bk l (aN l n))) = true ∨ hdK (bk l (aN l n)) < 0 then 0 else nz (hdK (skip (bk l (aN l n)).tail))) = k2 at *
  generalize nz (hdK (bk l (aN l n))) = k1 at *
  generalize nz (hdK (skip (fw l (n + 1)))) = k4 at *
  generalize rA l (aN l n) = ra at *
  generalize flW (bk l n) = F at *
  generalize kw x = a at *
  generalize kw y = b at *
  have w1 : IntKind.i64.wrap ((n : Int) - 1) = (m : Int) := by rw [IntKind.wrap_i64]; omega
  have c1 : (0 : Int) ≤ (m : Int) := by omega
  have c2 : (m : Int) < (N : Int) := by omega
  have c3 : ¬ (n : Int) < 0 := by omega
  have c3' : (0 : Int) ≤ (n : Int) := by omega
  have c4 : (n : Int) < (N : Int) := by omega
  have c5 : ¬ (N : Int) < (n : Int) := by omega
  have c6 : ((N : Int) == 0) = false := by rw [beq_eq_false_iff_ne]; omega
  have c7 : ((n : Int) == 0) = false := by rw [beq_eq_false_iff_ne]; omega
  have c8 : ((n : Int) == (N : Int)) = false := by rw [beq_eq_false_iff_ne]; omega
  clear hn hN
  skip
  obtain ⟨oli_a, qoli_a⟩ : ∃ z, (a == 3 || a == 1 || a == 2) = z := ⟨_, rfl⟩
  rw [qoli_a]
  have Qoli_a : Hid ((a == 3 || a == 1 || a == 2) = oli_a) := qoli_a
  clear qoli_a
  obtain ⟨oli_b, qoli_b⟩ : ∃ z, (b == 3 || b == 1 || b == 2) = z := ⟨_, rfl⟩
  rw [qoli_b]
  have Qoli_b : Hid ((b == 3 || b == 1 || b == 2) = oli_b) := qoli_b
  clear qoli_b
  obtain ⟨ea_1, qea_1⟩ : ∃ z, (a == 1) = z := ⟨_, rfl⟩
  rw [qea_1]
  have Qea_1 : Hid ((a == 1) = ea_1) := qea_1
  clear qea_1
  obtain ⟨eb_2, qeb_2⟩ : ∃ z, (b == 2) = z := ⟨_, rfl⟩
  rw [qeb_2]
  have Qeb_2 : Hid ((b == 2) = eb_2) := qeb_2
  clear qeb_2
  obtain ⟨ea_4, qea_4⟩ : ∃ z, (a == 4) = z := ⟨_, rfl⟩
  rw [qea_4]
  have Qea_4 : Hid ((a == 4) = ea_4) := qea_4
  clear qea_4
  obtain ⟨eb_7, qeb_7⟩ : ∃ z, (b == 7) = z := ⟨_, rfl⟩
  rw [qeb_7]
  have Qeb_7 : Hid ((b == 7) = eb_7) := qeb_7
  clear qeb_7
  obtain ⟨ea_8, qea_8⟩ : ∃ z, (a == 8) = z := ⟨_, rfl⟩
  rw [qea_8]
  have Qea_8 : Hid ((a == 8) = ea_8) := qea_8
  clear qea_8
  obtain ⟨eb_8, qeb_8⟩ : ∃ z, (b == 8) = z := ⟨_, rfl⟩
  rw [qeb_8]
  have Qeb_8 : Hid ((b == 8) = eb_8) := qeb_8
  clear qeb_8
  obtain ⟨pb, qpb⟩ : ∃ z, passB b = z := ⟨_, rfl⟩
  rw [qpb]
  have Qpb : Hid (passB b = pb) := qpb
  clear qpb
  obtain ⟨eb_19, qeb_19⟩ : ∃ z, (b == 19) = z := ⟨_, rfl⟩
  rw [qeb_19]
  have Qeb_19 : Hid ((b == 19) = eb_19) := qeb_19
  clear qeb_19
  obtain ⟨R0, hR0⟩ : ∃ R, (ea_1 && eb_2) = R := ⟨_, rfl⟩
  rw [hR0]
  have HR0 : Hid ((ea_1 && eb_2) = R0) := hR0
  clear hR0
  obtain ⟨R1, hR1⟩ : ∃ R, (oli_a || oli_b) = R := ⟨_, rfl⟩
  rw [hR1]
  have HR1 : Hid ((oli_a || oli_b) = R1) := hR1
  clear hR1
  obtain ⟨R2, hR2⟩ : ∃ R, (ea_4 && eb_7) = R := ⟨_, rfl⟩
  rw [hR2]
  have HR2 : Hid ((ea_4 && eb_7) = R2) := hR2
  clear hR2
  obtain ⟨R3, hR3⟩ : ∃ R, (ea_8 && eb_8) = R := ⟨_, rfl⟩
  rw [hR3]
  have HR3 : Hid ((ea_8 && eb_8) = R3) := hR3
  clear hR3
  obtain ⟨R4, hR4⟩ : ∃ R, pb = R := ⟨_, rfl⟩
  rw [hR4]
  have HR4 : Hid (pb = R4) := hR4
  clear hR4
  go_enter Tryz.func13, Tryz.ntmps13
  refine seq_k (ι := Unit) (puts := fun _ a => a.put (some 6) (.bool false)) (G := fun _ V => V = w) ?_ ?_
  · intro K Q' hk
    have hk2 := hk () w rfl
    simp only [Act.put, List.getElem_toArray, List.getElem_cons_zero, List.getElem_cons_succ, List.setIfInBounds_toArray, List.set_cons_zero, List.set_cons_succ] at hk2
    go_wp2
    exact hk2
  rintro _ V hV
  rw [hV]
  clear hV V
  simp only [Act.put, List.getElem_toArray, List.getElem_cons_zero, List.getElem_cons_succ, List.setIfInBounds_toArray, List.set_cons_zero, List.set_cons_succ]
  refine seq_k (ι := Value × Value × Value × Value × Value × Value × Value × Value × Value × Value × Value × Value × Value) (puts := fun v a => (((((((((((((a.put (some 10) v.1).put (some 11) v.2.1).put (some 12) v.2.2.1).put (some 13) v.2.2.2.1).put (some 14) v.2.2.2.2.1).put (some 15) v.2.2.2.2.2.1).put (some 16) v.2.2.2.2.2.2.1).put (some 17) v.2.2.2.2.2.2.2.1).put (some 18) v.2.2.2.2.2.2.2.2.1).put (some 19) v.2.2.2.2.2.2.2.2.2.1).put (some 20) v.2.2.2.2.2.2.2.2.2.2.1).put (some 21) v.2.2.2.2.2.2.2.2.2.2.2.1).put (some 22) v.2.2.2.2.2.2.2.2.2.2.2.2)) (G := fun _ V => V = w) ?_ ?_
  · intro K Q' hk
    have hk2 := fun (v10 v11 v12 v13 v14 v15 v16 v17 v18 v19 v20 v21 v22 : Value) => hk (v10, v11, v12, v13, v14, v15, v16, v17, v18, v19, v20, v21, v22) w rfl
    simp only [Act.put, List.getElem_toArray, List.getElem_cons_zero, List.getElem_cons_succ, List.setIfInBounds_toArray, List.set_cons_zero, List.set_cons_succ] at hk2
    have HK : Hid _ := hk2
    clear hk hk2
    go_wp2
    exact HK.out _ _ _ _ _ _ _ _ _ _ _ _ _
  rintro ⟨v10, v11, v12, v13, v14, v15, v16, v17, v18, v19, v20, v21, v22⟩ V hV
  rw [hV]
  clear hV V
  simp only [Act.put, List.getElem_toArray, List.getElem_cons_zero, List.getElem_cons_succ, List.setIfInBounds_toArray, List.set_cons_zero, List.set_cons_succ]
  refine seq_k (ι := Value × Value × Value × Value × Value × Value × Value × Value) (puts := fun v a => ((((((((a.put (some 23) v.1).put (some 24) v.2.1).put (some 25) v.2.2.1).put (some 26) v.2.2.2.1).put (some 27) v.2.2.2.2.1).put (some 28) v.2.2.2.2.2.1).put (some 29) v.2.2.2.2.2.2.1).put (some 30) v.2.2.2.2.2.2.2)) (G := fun _ V => V = w) ?_ ?_
  · intro K Q' hk
    have hk2 := fun (v23 v24 v25 v26 v27 v28 v29 v30 : Value) => hk (v23, v24, v25, v26, v27, v28, v29, v30) w rfl
    simp only [Act.put, List.getElem_toArray, List.getElem_cons_zero, List.getElem_cons_succ, List.setIfInBounds_toArray, List.set_cons_zero, List.set_cons_succ] at hk2
    have HK : Hid _ := hk2
    clear hk hk2
    go_wp2
    exact HK.out _ _ _ _ _ _ _ _
  rintro ⟨v23, v24, v25, v26, v27, v28, v29, v30⟩ V hV
  rw [hV]
  clear hV V
  simp only [Act.put, List.getElem_toArray, List.getElem_cons_zero, List.getElem_cons_succ, List.setIfInBounds_toArray, List.set_cons_zero, List.set_cons_succ]
  refine seq_k (ι := ByteArray × ByteArray) (puts := fun v a => (((((((((((((((a.put (some 31) (.pointer (some ⟨u, 0, none⟩))).put (some 32) (.slice (some ⟨b0, o, none⟩) N cap)).put (some 33) (.int .i64 (n : Int))).put (some 34) (.int .i64 (m : Int))).put (some 35) (.pointer (some ⟨b0, o + m, none⟩))).put (some 36) (.int .i64 x)).put (some 37) (.string v.1)).put (some 38) (.pointer (some ⟨u, 0, none⟩))).put (some 39) (.slice (some ⟨b0, o, none⟩) N cap)).put (some 40) (.int .i64 (n : Int))).put (some 41) (.pointer (some ⟨b0, o + n, none⟩))).put (some 42) (.int .i64 y)).put (some 43) (.string v.2)).put (some 7) (.string v.1)).put (some 8) (.string v.2))) (G := fun v V => Below w.heap.size w V ∧ IsW v.1 a ∧ IsW v.2 b) ?_ ?_
  · intro K Q' hk
    have hk2 := fun (A B : ByteArray) (V : World) (hb : Below w.heap.size w V ∧ IsW A a ∧ IsW B b) => hk (A, B) V hb
    simp only [Act.put, List.getElem_toArray, List.getElem_cons_zero, List.getElem_cons_succ, List.setIfInBounds_toArray, List.set_cons_zero, List.set_cons_succ] at hk2
    have HK : Hid _ := hk2
    clear hk hk2
    refine wp_region_noPanic ?_
    refine wp_region_held_drew (S := fun w' => w'.cell? ⟨b0, o + m, none⟩ = some (.int .i64 x) ∧ w'.cell? ⟨b0, o + n, none⟩ = some (.int .i64 y)) (by kernel_rfl) ⟨cx, cy⟩ (fun hHeld => ?_)
    have Bw1 : Below w.heap.size w w.drew := (Below.refl _ w).drew
    generalize w.drew = w1 at *
    refine wpAnyH_take (i := 0) (v := ?_) rfl (by kernel_rfl) (by kernel_rfl) (by kernel_rfl) (fun _ _ _ h => h) (Or.inl ⟨by rfl, ?_⟩) (by assumption) ?_
    rotate_left
    · (intro w' hSw; (try dsimp only at hSw); go_simp; try with_reducible rfl)
    try simp only [Act.put, List.getElem_toArray, List.getElem_cons_zero, List.getElem_cons_succ, List.setIfInBounds_toArray, List.set_cons_zero, List.set_cons_succ]
    refine wpAnyH_take (i := 1) (v := ?_) rfl (by kernel_rfl) (by kernel_rfl) (by kernel_rfl) (fun _ _ _ h => h) (Or.inl ⟨by rfl, ?_⟩) (by assumption) ?_
    rotate_left
    · (intro w' hSw; (try dsimp only at hSw); go_simp; try with_reducible rfl)
    try simp only [Act.put, List.getElem_toArray, List.getElem_cons_zero, List.getElem_cons_succ, List.setIfInBounds_toArray, List.set_cons_zero, List.set_cons_succ]
    refine wpAnyH_take (i := 2) (v := ?_) rfl (by kernel_rfl) (by kernel_rfl) (by kernel_rfl) (fun _ _ _ h => h) (Or.inl ⟨by rfl, ?_⟩) (by assumption) ?_
    rotate_left
    · (intro w' hSw; (try dsimp only at hSw); go_simp; try with_reducible rfl)
    try simp only [Act.put, List.getElem_toArray, List.getElem_cons_zero, List.getElem_cons_succ, List.setIfInBounds_toArray, List.set_cons_zero, List.set_cons_succ]
    refine wpAnyH_take (i := 3) (v := ?_) rfl (by kernel_rfl) (by kernel_rfl) (by kernel_rfl) (fun _ _ _ h => h) (Or.inl ⟨by rfl, ?_⟩) (by assumption) ?_
    rotate_left
    · (intro w' hSw; (try dsimp only at hSw); go_simp; try with_reducible rfl)
    try simp only [Act.put, List.getElem_toArray, List.getElem_cons_zero, List.getElem_cons_succ, List.setIfInBounds_toArray, List.set_cons_zero, List.set_cons_succ]
    refine wpAnyH_take (i := 4) (v := ?_) rfl (by kernel_rfl) (by kernel_rfl) (by kernel_rfl) (fun _ _ _ h => h) (Or.inl ⟨by rfl, ?_⟩) (by assumption) ?_
    rotate_left
    · (intro w' hSw; (try dsimp only at hSw); go_simp; try with_reducible rfl)
    try simp only [Act.put, List.getElem_toArray, List.getElem_cons_zero, List.getElem_cons_succ, List.setIfInBounds_toArray, List.set_cons_zero, List.set_cons_succ]
    refine wpAnyH_take (i := 5) (v := ?_) rfl (by kernel_rfl) (by kernel_rfl) (by kernel_rfl) (fun _ _ _ h => h) (Or.inl ⟨by rfl, ?_⟩) (by assumption) ?_
    rotate_left
    · (intro w' hSw; (try dsimp only at hSw); go_simp; try with_reducible rfl)
    try simp only [Act.put, List.getElem_toArray, List.getElem_cons_zero, List.getElem_cons_succ, List.setIfInBounds_toArray, List.set_cons_zero, List.set_cons_succ]
    refine wpAnyH_take (i := 7) (v := ?_) rfl (by kernel_rfl) (by kernel_rfl) (by kernel_rfl) (fun _ _ _ h => h) (Or.inl ⟨by rfl, ?_⟩) (by assumption) ?_
    rotate_left
    · (intro w' hSw; (try dsimp only at hSw); go_simp; try with_reducible rfl)
    try simp only [Act.put, List.getElem_toArray, List.getElem_cons_zero, List.getElem_cons_succ, List.setIfInBounds_toArray, List.set_cons_zero, List.set_cons_succ]
    refine wpAnyH_take (i := 8) (v := ?_) rfl (by kernel_rfl) (by kernel_rfl) (by kernel_rfl) (fun _ _ _ h => h) (Or.inl ⟨by rfl, ?_⟩) (by assumption) ?_
    rotate_left
    · (intro w' hSw; (try dsimp only at hSw); go_simp; try with_reducible rfl)
    try simp only [Act.put, List.getElem_toArray, List.getElem_cons_zero, List.getElem_cons_succ, List.setIfInBounds_toArray, List.set_cons_zero, List.set_cons_succ]
    refine wpAnyH_take (i := 9) (v := ?_) rfl (by kernel_rfl) (by kernel_rfl) (by kernel_rfl) (fun _ _ _ h => h) (Or.inl ⟨by rfl, ?_⟩) (by assumption) ?_
    rotate_left
    · (intro w' hSw; (try dsimp only at hSw); go_simp; try with_reducible rfl)
    try simp only [Act.put, List.getElem_toArray, List.getElem_cons_zero, List.getElem_cons_succ, List.setIfInBounds_toArray, List.set_cons_zero, List.set_cons_succ]
    refine wpAnyH_take (i := 10) (v := ?_) rfl (by kernel_rfl) (by kernel_rfl) (by kernel_rfl) (fun _ _ _ h => h) (Or.inl ⟨by rfl, ?_⟩) (by assumption) ?_
    rotate_left
    · (intro w' hSw; (try dsimp only at hSw); go_simp; try with_reducible rfl)
    try simp only [Act.put, List.getElem_toArray, List.getElem_cons_zero, List.getElem_cons_succ, List.setIfInBounds_toArray, List.set_cons_zero, List.set_cons_succ]
    refine wpAnyH_take (i := 11) (v := ?_) rfl (by kernel_rfl) (by kernel_rfl) (by kernel_rfl) (fun _ _ _ h => h) (Or.inl ⟨by rfl, ?_⟩) (by assumption) ?_
    rotate_left
    · (intro w' hSw; (try dsimp only at hSw); go_simp; try with_reducible rfl)
    try simp only [Act.put, List.getElem_toArray, List.getElem_cons_zero, List.getElem_cons_succ, List.setIfInBounds_toArray, List.set_cons_zero, List.set_cons_succ]
    refine wpAnyH_ready (rs := [6]) (by kernel_rfl) (by simp) ?_
    refine AllReadyH.cons rfl (fun K hK => ?_) AllReadyH.nil
    go_simp
    refine (HWX.out _ Bw1).mono ?_
    rintro e w2 ⟨⟨A, rfl, hA⟩, bq⟩
    have Bw2 : Below w.heap.size w w2 := Bw1.trans (bq.mono Bw1.size)
    clear bq
    refine hK.out _ _ ⟨cell_below Bw2 cx, cell_below Bw2 cy⟩ (fun hHeld2 => ?_)
    clear hK K hHeld
    have hHeld := hHeld2
    clear hHeld2
    try simp only [Act.put, List.getElem_toArray, List.getElem_cons_zero, List.getElem_cons_succ, List.setIfInBounds_toArray, List.set_cons_zero, List.set_cons_succ]
    refine wpAnyH_ready (rs := [12]) (by kernel_rfl) (by simp) ?_
    refine AllReadyH.cons rfl (fun K hK => ?_) AllReadyH.nil
    go_simp
    refine (HWY.out _ Bw2).mono ?_
    rintro e w3 ⟨⟨B, rfl, hB⟩, bq⟩
    have Bw3 : Below w.heap.size w w3 := Bw2.trans (bq.mono Bw2.size)
    clear bq
    refine hK.out _ _ ⟨cell_below Bw3 cx, cell_below Bw3 cy⟩ (fun hHeld2 => ?_)
    clear hK K hHeld
    have hHeld := hHeld2
    clear hHeld2
    try simp only [Act.put, List.getElem_toArray, List.getElem_cons_zero, List.getElem_cons_succ, List.setIfInBounds_toArray, List.set_cons_zero, List.set_cons_succ]
    refine wpAnyH_take (i := 13) (v := ?_) rfl (by kernel_rfl) (by kernel_rfl) (by kernel_rfl) (fun _ _ _ h => h) (Or.inl ⟨by rfl, ?_⟩) (by assumption) ?_
    rotate_left
    · (intro w' hSw; (try dsimp only at hSw); go_simp; try with_reducible rfl)
    try simp only [Act.put, List.getElem_toArray, List.getElem_cons_zero, List.getElem_cons_succ, List.setIfInBounds_toArray, List.set_cons_zero, List.set_cons_succ]
    refine wpAnyH_take (i := 14) (v := ?_) rfl (by kernel_rfl) (by kernel_rfl) (by kernel_rfl) (fun _ _ _ h => h) (Or.inl ⟨by rfl, ?_⟩) (by assumption) ?_
    rotate_left
    · (intro w' hSw; (try dsimp only at hSw); go_simp; try with_reducible rfl)
    try simp only [Act.put, List.getElem_toArray, List.getElem_cons_zero, List.getElem_cons_succ, List.setIfInBounds_toArray, List.set_cons_zero, List.set_cons_succ]
    refine wpAnyH_done (by kernel_rfl) ?_ _
    refine NoPanic.normal ?_
    exact HK.out A B _ ⟨Bw3, hA, hB⟩
  rintro ⟨A, B⟩ z ⟨hb, iA, iB⟩
  simp only [Act.put, List.getElem_toArray, List.getElem_cons_zero, List.getElem_cons_succ, List.setIfInBounds_toArray, List.set_cons_zero, List.set_cons_succ]
  have HBz : Hid (Below w.heap.size w z) := hb
  clear hb HWX HWY cx cy
  have fea_1 := iA.n1
  rw [Qea_1.out] at fea_1
  have feb_2 := iB.n2
  rw [Qeb_2.out] at feb_2
  have HOli_a : Hid (∀ W : World, Calls Tryz.prog 42 #[.string A, .slice (some ⟨W.heap.size, 0, none⟩) 3 3] (W.alloc (.cells #[.string ⟨#[78, 101, 119, 108, 105, 110, 101]⟩, .string ⟨#[67, 82]⟩, .string ⟨#[76, 70]⟩] 9)) fun e w' => e = .returned (.bool oli_a) ∧ w' = W.alloc (.cells #[.string ⟨#[78, 101, 119, 108, 105, 110, 101]⟩, .string ⟨#[67, 82]⟩, .string ⟨#[76, 70]⟩] 9)) := fun W => by rw [← Qoli_a.out]; exact one_li _ _ W iA
  have HOli_b : Hid (∀ W : World, Calls Tryz.prog 42 #[.string B, .slice (some ⟨W.heap.size, 0, none⟩) 3 3] (W.alloc (.cells #[.string ⟨#[78, 101, 119, 108, 105, 110, 101]⟩, .string ⟨#[67, 82]⟩, .string ⟨#[76, 70]⟩] 9)) fun e w' => e = .returned (.bool oli_b) ∧ w' = W.alloc (.cells #[.string ⟨#[78, 101, 119, 108, 105, 110, 101]⟩, .string ⟨#[67, 82]⟩, .string ⟨#[76, 70]⟩] 9)) := fun W => by rw [← Qoli_b.out]; exact one_li _ _ W iB
  have fea_4 := iA.n4
  rw [Qea_4.out] at fea_4
  have feb_7 := iB.n7
  rw [Qeb_7.out] at feb_7
  have fea_8 := iA.n8
  rw [Qea_8.out] at fea_8
  have feb_8 := iB.n8
  rw [Qeb_8.out] at feb_8
  have HCpb : Hid (∀ W : World, Below w.heap.size w W → Calls Tryz.prog 43 #[.string B] W fun e w' => e = .returned (.bool pb) ∧ Below W.heap.size W w') := fun W _ => by rw [← Qpb.out]; exact rpassed_any _ _ W iB
  have feb_19 := iB.n19
  rw [Qeb_19.out] at feb_19
  have HJ2 : Hid (∀ A2 A B2 W, IsW A2 k2 → IsW A k1 → IsW B2 k4 → Calls Tryz.prog 46 #[.string A2, .string A, .string B, .string B2] W fun e w' => e = .returned (.bool J) ∧ Below W.heap.size W w') := fun A2 A B2 W i1 i2 i4 => HJN.out A2 A B B2 W i1 i2 iB i4
  clear iA iB HJN Qea_1 Qeb_2 Qoli_a Qoli_b Qea_4 Qeb_7 Qea_8 Qeb_8 Qpb Qeb_19
  refine wp_seq (wp_block ?_)
  refine seq_k (ι := Value × Value × Value × Value × Value × Value) (puts := fun v a => (((((((a.put (some 45) v.1).put (some 46) v.2.1).put (some 47) v.2.2.1).put (some 48) v.2.2.2.1).put (some 49) v.2.2.2.2.1).put (some 50) v.2.2.2.2.2).put (some 44) (.bool R0))) (G := fun _ V => Below w.heap.size w V) ?_ ?_
  · intro K Q' hk
    have hk2 := fun (v0 v1 v2 v3 v4 v5 : Value) (V : World) (hb : Below w.heap.size w V) => hk (v0, v1, v2, v3, v4, v5) V hb
    simp only [Act.put, List.getElem_toArray, List.getElem_cons_zero, List.getElem_cons_succ, List.setIfInBounds_toArray, List.set_cons_zero, List.set_cons_succ] at hk2
    have HK : Hid _ := hk2
    clear hk hk2
    cases ea_1 with
    | true =>
      cases eb_2 with
      | true =>
        obtain rfl : R0 = true := HR0.out.symm
        go_wp2
        exact HK.out _ _ _ _ _ _ _ HBz.out
      | false =>
        obtain rfl : R0 = false := HR0.out.symm
        go_wp2
        exact HK.out _ _ _ _ _ _ _ HBz.out
    | false =>
      obtain rfl : R0 = false := HR0.out.symm
      go_wp2
      exact HK.out _ _ _ _ _ _ _ HBz.out
  · rintro ⟨v0, v1, v2, v3, v4, v5⟩ x0 hb
    have HBx0 : Hid (Below w.heap.size w x0) := hb
    clear hb
    simp only [Act.put, List.getElem_toArray, List.getElem_cons_zero, List.getElem_cons_succ, List.setIfInBounds_toArray, List.set_cons_zero, List.set_cons_succ]
    clear HR0 HBz
    cases R0 with
    | true =>
      refine wp_cond_true rfl ?_
      go_wp2
      try rw [Exit.noGoto_ret]
      go_ret
      exact ⟨by first | rfl | simp, HBx0.out⟩
    | false =>
      refine wp_cond_false rfl ?_
      refine seq_k (ι := Value × Value × Value × Value × Value × Value × Value × Value) (puts := fun v a => (((((((((a.put (some 52) v.1).put (some 53) v.2.1).put (some 54) v.2.2.1).put (some 55) v.2.2.2.1).put (some 56) v.2.2.2.2.1).put (some 57) v.2.2.2.2.2.1).put (some 58) v.2.2.2.2.2.2.1).put (some 59) v.2.2.2.2.2.2.2).put (some 51) (.bool R1))) (G := fun _ V => Below w.heap.size w V) ?_ ?_
      · intro K Q' hk
        have hk2 := fun (v0 v1 v2 v3 v4 v5 v6 v7 : Value) (V : World) (hb : Below w.heap.size w V) => hk (v0, v1, v2, v3, v4, v5, v6, v7) V hb
        simp only [Act.put, List.getElem_toArray, List.getElem_cons_zero, List.getElem_cons_succ, List.setIfInBounds_toArray, List.set_cons_zero, List.set_cons_succ] at hk2
        have HK : Hid _ := hk2
        clear hk hk2
        cases oli_a with
        | true =>
          obtain rfl : R1 = true := HR1.out.symm
          have C := HOli_a.out x0
          go_wp2_with fail
          refine C.mono ?_
          rintro e wz ⟨rfl, hw⟩
          rw [hw]
          clear C hw wz
          have HBwc1 : Hid (Below w.heap.size w (x0.alloc (.cells #[.string ⟨#[78, 101, 119, 108, 105, 110, 101]⟩, .string ⟨#[67, 82]⟩, .string ⟨#[76, 70]⟩] 9))) := HBx0.out.alloc HBx0.out.size _
          generalize x0.alloc (.cells #[.string ⟨#[78, 101, 119, 108, 105, 110, 101]⟩, .string ⟨#[67, 82]⟩, .string ⟨#[76, 70]⟩] 9) = wc1 at *
          go_wp2
          exact HK.out _ _ _ _ _ _ _ _ _ HBwc1.out
        | false =>
          cases oli_b with
          | true =>
            obtain rfl : R1 = true := HR1.out.symm
            have C := HOli_a.out x0
            go_wp2_with fail
            refine C.mono ?_
            rintro e wz ⟨rfl, hw⟩
            rw [hw]
            clear C hw wz
            have HBwc1 : Hid (Below w.heap.size w (x0.alloc (.cells #[.string ⟨#[78, 101, 119, 108, 105, 110, 101]⟩, .string ⟨#[67, 82]⟩, .string ⟨#[76, 70]⟩] 9))) := HBx0.out.alloc HBx0.out.size _
            generalize x0.alloc (.cells #[.string ⟨#[78, 101, 119, 108, 105, 110, 101]⟩, .string ⟨#[67, 82]⟩, .string ⟨#[76, 70]⟩] 9) = wc1 at *
            have C := HOli_b.out wc1
            go_wp2_with fail
            refine C.mono ?_
            rintro e wz ⟨rfl, hw⟩
            rw [hw]
            clear C hw wz
            have HBwc2 : Hid (Below w.heap.size w (wc1.alloc (.cells #[.string ⟨#[78, 101, 119, 108, 105, 110, 101]⟩, .string ⟨#[67, 82]⟩, .string ⟨#[76, 70]⟩] 9))) := HBwc1.out.alloc HBwc1.out.size _
            generalize wc1.alloc (.cells #[.string ⟨#[78, 101, 119, 108, 105, 110, 101]⟩, .string ⟨#[67, 82]⟩, .string ⟨#[76, 70]⟩] 9) = wc2 at *
            go_wp2
            exact HK.out _ _ _ _ _ _ _ _ _ HBwc2.out
          | false =>
            obtain rfl : R1 = false := HR1.out.symm
            have C := HOli_a.out x0
            go_wp2_with fail
            refine C.mono ?_
            rintro e wz ⟨rfl, hw⟩
            rw [hw]
            clear C hw wz
            have HBwc1 : Hid (Below w.heap.size w (x0.alloc (.cells #[.string ⟨#[78, 101, 119, 108, 105, 110, 101]⟩, .string ⟨#[67, 82]⟩, .string ⟨#[76, 70]⟩] 9))) := HBx0.out.alloc HBx0.out.size _
            generalize x0.alloc (.cells #[.string ⟨#[78, 101, 119, 108, 105, 110, 101]⟩, .string ⟨#[67, 82]⟩, .string ⟨#[76, 70]⟩] 9) = wc1 at *
            have C := HOli_b.out wc1
            go_wp2_with fail
            refine C.mono ?_
            rintro e wz ⟨rfl, hw⟩
            rw [hw]
            clear C hw wz
            have HBwc2 : Hid (Below w.heap.size w (wc1.alloc (.cells #[.string ⟨#[78, 101, 119, 108, 105, 110, 101]⟩, .string ⟨#[67, 82]⟩, .string ⟨#[76, 70]⟩] 9))) := HBwc1.out.alloc HBwc1.out.size _
            generalize wc1.alloc (.cells #[.string ⟨#[78, 101, 119, 108, 105, 110, 101]⟩, .string ⟨#[67, 82]⟩, .string ⟨#[76, 70]⟩] 9) = wc2 at *
            go_wp2
            exact HK.out _ _ _ _ _ _ _ _ _ HBwc2.out
      · rintro ⟨v0, v1, v2, v3, v4, v5, v6, v7⟩ x1 hb
        have HBx1 : Hid (Below w.heap.size w x1) := hb
        clear hb
        simp only [Act.put, List.getElem_toArray, List.getElem_cons_zero, List.getElem_cons_succ, List.setIfInBounds_toArray, List.set_cons_zero, List.set_cons_succ]
        clear HR1 HBx0
        cases R1 with
        | true =>
          refine wp_cond_true rfl ?_
          go_wp2
          try rw [Exit.noGoto_ret]
          go_ret
          exact ⟨by first | rfl | simp, HBx1.out⟩
        | false =>
          refine wp_cond_false rfl ?_
          refine seq_k (ι := Value × Value × Value × Value × Value × Value) (puts := fun v a => (((((((a.put (some 61) v.1).put (some 62) v.2.1).put (some 63) v.2.2.1).put (some 64) v.2.2.2.1).put (some 65) v.2.2.2.2.1).put (some 66) v.2.2.2.2.2).put (some 60) (.bool R2))) (G := fun _ V => Below w.heap.size w V) ?_ ?_
          · intro K Q' hk
            have hk2 := fun (v0 v1 v2 v3 v4 v5 : Value) (V : World) (hb : Below w.heap.size w V) => hk (v0, v1, v2, v3, v4, v5) V hb
            simp only [Act.put, List.getElem_toArray, List.getElem_cons_zero, List.getElem_cons_succ, List.setIfInBounds_toArray, List.set_cons_zero, List.set_cons_succ] at hk2
            have HK : Hid _ := hk2
            clear hk hk2
            cases ea_4 with
            | true =>
              cases eb_7 with
              | true =>
                obtain rfl : R2 = true := HR2.out.symm
                go_wp2
                exact HK.out _ _ _ _ _ _ _ HBx1.out
              | false =>
                obtain rfl : R2 = false := HR2.out.symm
                go_wp2
                exact HK.out _ _ _ _ _ _ _ HBx1.out
            | false =>
              obtain rfl : R2 = false := HR2.out.symm
              go_wp2
              exact HK.out _ _ _ _ _ _ _ HBx1.out
          · rintro ⟨v0, v1, v2, v3, v4, v5⟩ x2 hb
            have HBx2 : Hid (Below w.heap.size w x2) := hb
            clear hb
            simp only [Act.put, List.getElem_toArray, List.getElem_cons_zero, List.getElem_cons_succ, List.setIfInBounds_toArray, List.set_cons_zero, List.set_cons_succ]
            clear HR2 HBx1
            cases R2 with
            | true =>
              refine wp_cond_true rfl ?_
              go_wp2
              try rw [Exit.noGoto_ret]
              go_ret
              exact ⟨by first | rfl | simp, HBx2.out⟩
            | false =>
              refine wp_cond_false rfl ?_
              refine seq_k (ι := Value × Value × Value × Value × Value × Value) (puts := fun v a => (((((((a.put (some 68) v.1).put (some 69) v.2.1).put (some 70) v.2.2.1).put (some 71) v.2.2.2.1).put (some 72) v.2.2.2.2.1).put (some 73) v.2.2.2.2.2).put (some 67) (.bool R3))) (G := fun _ V => Below w.heap.size w V) ?_ ?_
              · intro K Q' hk
                have hk2 := fun (v0 v1 v2 v3 v4 v5 : Value) (V : World) (hb : Below w.heap.size w V) => hk (v0, v1, v2, v3, v4, v5) V hb
                simp only [Act.put, List.getElem_toArray, List.getElem_cons_zero, List.getElem_cons_succ, List.setIfInBounds_toArray, List.set_cons_zero, List.set_cons_succ] at hk2
                have HK : Hid _ := hk2
                clear hk hk2
                cases ea_8 with
                | true =>
                  cases eb_8 with
                  | true =>
                    obtain rfl : R3 = true := HR3.out.symm
                    go_wp2
                    exact HK.out _ _ _ _ _ _ _ HBx2.out
                  | false =>
                    obtain rfl : R3 = false := HR3.out.symm
                    go_wp2
                    exact HK.out _ _ _ _ _ _ _ HBx2.out
                | false =>
                  obtain rfl : R3 = false := HR3.out.symm
                  go_wp2
                  exact HK.out _ _ _ _ _ _ _ HBx2.out
              · rintro ⟨v0, v1, v2, v3, v4, v5⟩ x3 hb
                have HBx3 : Hid (Below w.heap.size w x3) := hb
                clear hb
                simp only [Act.put, List.getElem_toArray, List.getElem_cons_zero, List.getElem_cons_succ, List.setIfInBounds_toArray, List.set_cons_zero, List.set_cons_succ]
                clear HR3 HBx2
                cases R3 with
                | true =>
                  refine wp_cond_true rfl ?_
                  go_wp2
                  try rw [Exit.noGoto_ret]
                  go_ret
                  exact ⟨by first | rfl | simp, HBx3.out⟩
                | false =>
                  refine wp_cond_false rfl ?_
                  refine seq_k (ι := Value × Value) (puts := fun v a => (((a.put (some 75) v.1).put (some 76) v.2).put (some 74) (.bool R4))) (G := fun _ V => Below w.heap.size w V) ?_ ?_
                  · intro K Q' hk
                    have hk2 := fun (v0 v1 : Value) (V : World) (hb : Below w.heap.size w V) => hk (v0, v1) V hb
                    simp only [Act.put, List.getElem_toArray, List.getElem_cons_zero, List.getElem_cons_succ, List.setIfInBounds_toArray, List.set_cons_zero, List.set_cons_succ] at hk2
                    have HK : Hid _ := hk2
                    clear hk hk2
                    cases pb with
                    | true =>
                      obtain rfl : R4 = true := HR4.out.symm
                      have C := HCpb.out x3 HBx3.out
                      go_wp2_with fail
                      refine C.mono ?_
                      rintro e wc1 ⟨rfl, bz⟩
                      clear C
                      have HBwc1 : Hid (Below w.heap.size w wc1) := HBx3.out.trans (bz.mono HBx3.out.size)
                      clear bz
                      go_wp2
                      exact HK.out _ _ _ HBwc1.out
                    | false =>
                      obtain rfl : R4 = false := HR4.out.symm
                      have C := HCpb.out x3 HBx3.out
                      go_wp2_with fail
                      refine C.mono ?_
                      rintro e wc1 ⟨rfl, bz⟩
                      clear C
                      have HBwc1 : Hid (Below w.heap.size w wc1) := HBx3.out.trans (bz.mono HBx3.out.size)
                      clear bz
                      go_wp2
                      exact HK.out _ _ _ HBwc1.out
                  · rintro ⟨v0, v1⟩ x4 hb
                    have HBx4 : Hid (Below w.heap.size w x4) := hb
                    clear hb
                    simp only [Act.put, List.getElem_toArray, List.getElem_cons_zero, List.getElem_cons_succ, List.setIfInBounds_toArray, List.set_cons_zero, List.set_cons_succ]
                    clear HR4 HBx3
                    cases R4 with
                    | true =>
                      refine wp_cond_true rfl ?_
                      go_wp2
                      try rw [Exit.noGoto_ret]
                      go_ret
                      exact ⟨by first | rfl | simp, HBx4.out⟩
                    | false =>
                      refine wp_cond_false rfl ?_
                      clear fea_1 feb_2 fea_4 feb_7 fea_8 feb_8
                      have C := HAH.out x4 HBx4.out
                      go_wp2_with fail
                      refine C.mono ?_
                      rintro e y1 ⟨rfl, bz⟩
                      clear C
                      have HBy1 : Hid (Below w.heap.size w y1) := HBx4.out.trans (bz.mono HBx4.out.size)
                      clear bz
                      have C := HWA.out y1 HBy1.out
                      go_wp2_with fail
                      refine C.mono ?_
                      rintro e y2 ⟨⟨S1, rfl, hs1⟩, bz⟩
                      clear C
                      have HBy2 : Hid (Below w.heap.size w y2) := HBy1.out.trans (bz.mono HBy1.out.size)
                      clear bz
                      have HS1 : Hid (IsW S1 k1) := hs1
                      clear hs1
                      have C := HBF.out y2 HBy2.out
                      go_wp2_with fail
                      refine C.mono ?_
                      rintro e y3 ⟨⟨S2, rfl, hs2⟩, bz⟩
                      clear C
                      have HBy3 : Hid (Below w.heap.size w y3) := HBy2.out.trans (bz.mono HBy2.out.size)
                      clear bz
                      have HS2 : Hid (IsW S2 k2) := hs2
                      clear hs2
                      have C := HBH.out y3 HBy3.out
                      go_wp2_with fail
                      refine C.mono ?_
                      rintro e y4 ⟨⟨j, rfl, hj⟩, bz⟩
                      clear C
                      have HBy4 : Hid (Below w.heap.size w y4) := HBy3.out.trans (bz.mono HBy3.out.size)
                      clear bz
                      have HJP : Hid (PlaceOf l j k4) := hj
                      clear hj
                      have C := HWP.out y4 j HJP.out HBy4.out
                      go_wp2_with fail
                      refine C.mono ?_
                      rintro e y5 ⟨⟨S4, rfl, hs4⟩, bz⟩
                      clear C
                      have HBy5 : Hid (Below w.heap.size w y5) := HBy4.out.trans (bz.mono HBy4.out.size)
                      clear bz
                      have HS4 : Hid (IsW S4 k4) := hs4
                      clear hs4
                      have C := HJ2.out S2 S1 S4 y5 HS2.out HS1.out HS4.out
                      go_wp2_with fail
                      refine C.mono ?_
                      rintro e y6 ⟨rfl, bz⟩
                      clear C
                      have HBy6 : Hid (Below w.heap.size w y6) := HBy5.out.trans (bz.mono HBy5.out.size)
                      clear bz
                      cases J with
                      | true =>
                        go_wp2
                        try rw [Exit.noGoto_ret]
                        go_ret
                        exact ⟨by first | rfl | simp, HBy6.out⟩
                      | false =>
                        cases eb_19 with
                        | false =>
                          go_wp2
                          go_ret
                          exact ⟨by first | rfl | simp, HBy6.out⟩
                        | true =>
                          have HME : Hid ((((F : Nat) : Int).tmod 2 == 1) = (F % 2 == 1)) := by
                            show _ = _
                            rw [Int.tmod_eq_emod_of_nonneg (by omega), Bool.eq_iff_iff, beq_iff_eq, beq_iff_eq]
                            omega
                          have C := HFG.out y6 HBy6.out
                          go_wp2_with fail
                          refine C.mono ?_
                          rintro e y7 ⟨rfl, bz⟩
                          clear C
                          have HBy7 : Hid (Below w.heap.size w y7) := HBy6.out.trans (bz.mono HBy6.out.size)
                          clear bz
                          go_wp2
                          go_ret
                          refine ⟨?_, HBy7.out⟩
                          first | rfl | (simp only [if_false, Bool.false_eq_true, Bool.or_false, Bool.true_and, Bool.false_or, ↓reduceIte]; rw [← HME.out]; rfl) | (simp; rw [← HME.out]; rfl) | (simp; done) | skip
set_option maxHeartbeats 1000000 in
set_option maxRecDepth 1000000 in
theorem redge_t (u : Nat) (ao : Option Addr) (N cap : Nat) (l : List Int) (i : Int) (w : World) (h : RTabs w u) (hv : Txt w ao N cap l) :
    Calls Tryz.prog 13 #[.pointer (some ⟨u, 0, none⟩), .slice ao N cap, .int .i64 i] w fun e w' => e = .returned (.bool (edgeW l i)) ∧ Below w.heap.size w w' := by
  have hl := hv.length
  have hlen := hv.len
  by_cases hin : 0 < i ∧ i < N
  · obtain ⟨m, hm⟩ : ∃ m : Nat, i = ((m + 1 : Nat) : Int) := ⟨i.toNat - 1, by omega⟩
    have q := redge_in u ao N cap m (m + 1) l w h hv rfl (by omega)
    rw [hm, edge_in (by omega) (by omega)]
    exact q
  obtain ⟨R, hR⟩ : ∃ R, edgeW l i = R := ⟨_, rfl⟩
  have HE : Hid ((if N = 0 ∨ i < 0 ∨ (N : Int) < i then false else if i = 0 ∨ i = N then true else edgeK (bk l i.toNat) (fw l i.toNat)) = R) := by unfold Hid; rw [← hR, ← hl]; rfl
  rw [hR]
  clear h hv hl hR
  by_cases h1 : i < 0
  · have hRf : R = false := by rw [← HE.out, if_pos (.inr (.inl h1))]
    clear HE hin
    subst hRf
    go_enter Tryz.func13, Tryz.ntmps13
    go_wp2
    try rw [Exit.noGoto_ret]
    go_ret
    exact ⟨rfl, Below.refl _ _⟩
  by_cases h2 : (N : Int) < i
  · have hRf : R = false := by rw [← HE.out, if_pos (.inr (.inr h2))]
    clear HE hin
    subst hRf
    go_enter Tryz.func13, Tryz.ntmps13
    go_wp2
    try rw [Exit.noGoto_ret]
    go_ret
    exact ⟨rfl, Below.refl _ _⟩
  by_cases h0 : N = 0
  · have hRf : R = false := by rw [← HE.out, if_pos (.inl h0)]
    clear HE hin
    subst hRf h0
    go_enter Tryz.func13, Tryz.ntmps13
    go_wp2
    try rw [Exit.noGoto_ret]
    go_ret
    exact ⟨rfl, Below.refl _ _⟩
  have q0 : ((N : Int) == 0) = false := by rw [beq_eq_false_iff_ne]; omega
  by_cases h3 : i = 0
  · have hRf : R = true := by rw [← HE.out, if_neg (by omega), if_pos (.inl h3)]
    clear HE hin
    subst hRf h3
    go_enter Tryz.func13, Tryz.ntmps13
    go_wp2
    try rw [Exit.noGoto_ret]
    go_ret
    exact ⟨rfl, Below.refl _ _⟩
  have q3 : (i == 0) = false := beq_eq_false_iff_ne.2 h3
  have h4 : i = N := by omega
  have hRf : R = true := by rw [← HE.out, if_neg (by omega), if_pos (.inr h4)]
  have q4 : (i == (N : Int)) = true := by rw [h4]; exact beq_self_eq_true _
  clear HE h4 h3 hin
  subst hRf
  go_enter Tryz.func13, Tryz.ntmps13
  go_wp2
  try rw [Exit.noGoto_ret]
  go_ret
  exact ⟨rfl, Below.refl _ _⟩
end Go.Proofs.YtcmhkfiijdomiaaGreatDoor.wrd
end
