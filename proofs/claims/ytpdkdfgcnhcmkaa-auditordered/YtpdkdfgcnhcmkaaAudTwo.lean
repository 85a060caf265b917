/- Two matches of one span each; awake; AuditOrdered and AuditTwo walked. -/
import Derived.Test.YtpdkdfgcnhcmkaaAudOrd
set_option linter.unusedVariables false
set_option linter.unusedSimpArgs false
namespace Go.Proofs.Ytpdkdfgcnhcmkaa.aud
open Go.RowKit
open Go.Proofs.Ytpdkdfgcnhcmkaa.edt

theorem one_ss {w : World} {g : Nat} {x y : Int} {t : TypeId} (h : Bk w g #[.int .i64 x, .int .i64 y] t) : SS w (some ⟨g, 0, none⟩) 1 1 [(x, y)] := by
  refine ⟨rfl, Nat.le_refl _, by omega, .inr ⟨g, 0, rfl, fun j hj => ?_⟩⟩
  obtain rfl : j = 0 := by omega
  exact ⟨h.cell 0 rfl, h.cell 1 rfl⟩
theorem two_ms (w : World) (x y u v : Int) : MS (((w.alloc (.cells #[.int .i64 x, .int .i64 y] 34)).alloc (.cells #[.int .i64 u, .int .i64 v] 34)).alloc (.cells #[.slice (some ⟨w.heap.size, 0, none⟩) 1 1, .slice (some ⟨w.heap.size + 1, 0, none⟩) 1 1] 37)) (some ⟨w.heap.size + 1 + 1, 0, none⟩) 2 2 [[(x, y)], [(u, v)]] := by
  have b0 : Bk (((w.alloc (.cells #[.int .i64 x, .int .i64 y] 34)).alloc (.cells #[.int .i64 u, .int .i64 v] 34)).alloc (.cells #[.slice (some ⟨w.heap.size, 0, none⟩) 1 1, .slice (some ⟨w.heap.size + 1, 0, none⟩) 1 1] 37)) w.heap.size #[.int .i64 x, .int .i64 y] 34 := ((Bk.new w _ _).past _).past _
  have b1 : Bk (((w.alloc (.cells #[.int .i64 x, .int .i64 y] 34)).alloc (.cells #[.int .i64 u, .int .i64 v] 34)).alloc (.cells #[.slice (some ⟨w.heap.size, 0, none⟩) 1 1, .slice (some ⟨w.heap.size + 1, 0, none⟩) 1 1] 37)) (w.heap.size + 1) #[.int .i64 u, .int .i64 v] 34 := by
    have := (Bk.new (w.alloc (.cells #[.int .i64 x, .int .i64 y] 34)) #[.int .i64 u, .int .i64 v] 34).past (.cells #[.slice (some ⟨w.heap.size, 0, none⟩) 1 1, .slice (some ⟨w.heap.size + 1, 0, none⟩) 1 1] 37)
    simpa using this
  have b2 : Bk (((w.alloc (.cells #[.int .i64 x, .int .i64 y] 34)).alloc (.cells #[.int .i64 u, .int .i64 v] 34)).alloc (.cells #[.slice (some ⟨w.heap.size, 0, none⟩) 1 1, .slice (some ⟨w.heap.size + 1, 0, none⟩) 1 1] 37)) (w.heap.size + 1 + 1) #[.slice (some ⟨w.heap.size, 0, none⟩) 1 1, .slice (some ⟨w.heap.size + 1, 0, none⟩) 1 1] 37 := by
    have := Bk.new ((w.alloc (.cells #[.int .i64 x, .int .i64 y] 34)).alloc (.cells #[.int .i64 u, .int .i64 v] 34)) #[.slice (some ⟨w.heap.size, 0, none⟩) 1 1, .slice (some ⟨w.heap.size + 1, 0, none⟩) 1 1] 37
    simpa using this
  refine ⟨rfl, Nat.le_refl _, by omega, .inr ⟨w.heap.size + 1 + 1, 0, rfl, fun i hi => ?_⟩⟩
  match i, hi with
  | 0, _ => exact ⟨_, 1, 1, b2.cell 0 rfl, one_ss b0⟩
  | 1, _ => exact ⟨_, 1, 1, b2.cell 1 rfl, one_ss b1⟩
theorem below3 (w : World) (o1 o2 o3 : Obj) : Below w.heap.size w (((w.alloc o1).alloc o2).alloc o3) := (((Below.refl _ w).alloc (Nat.le_refl _) _).alloc (by simp) _).alloc (by simp; omega) _

theorem awake_any (w : World) :
    Calls Try.prog 10 #[] w fun e w' => e = .returned (.bool true) ∧ Below w.heap.size w w' := by
  have L1 := ordered_any _ _ _ _ 5 _ (two_ms w 0 2 1 3)
  have v1 : ordB 5 (-1, 0) [[(0, 2)], [(1, 3)]] = false := by decide
  rw [v1] at L1
  have L2 := fun W => ordered_any none 0 0 [] 0 W (MS.nilv W)
  have v2 : ordB 0 (-1, 0) [] = true := rfl
  simp only [v2] at L2
  have HL2 : Hid (∀ W, Calls Try.prog 8 #[.slice none 0 0, .int .i64 0] W fun e w' => e = .returned (.bool true) ∧ Below W.heap.size W w') := L2
  clear L2
  go_enter Try.func10, Try.ntmps10
  go_wp2_with fail
  refine L1.mono ?_
  rintro e w1 ⟨rfl, hb1⟩
  have R1 : Hid (Below w.heap.size w w1) := (below3 w _ _ _).trans (hb1.mono (by simp; omega))
  clear hb1 L1
  have L2 := HL2.out
  go_wp2_with fail
  refine (L2 _).mono ?_
  rintro e w2 ⟨rfl, hb2⟩
  have R2 : Hid (Below w.heap.size w w2) := R1.out.trans (hb2.mono R1.out.size)
  clear hb2 L2
  go_wp2
  go_ret
  exact ⟨rfl, R2.out⟩

theorem ordered_walk (ao : Option Addr) (n cap : Nat) (l : List (List Sp)) (z : Int) (w : World) (hS : MS w ao n cap l) :
    Calls Try.prog 3 #[.slice ao n cap, .int .i64 z] w fun e w' => e = .returned (.bool true) ∧ Below w.heap.size w w' := by
  have L1 := ordered_any ao n cap l z w hS
  have HL2 : Hid (∀ W, Below w.heap.size w W → Calls Try.prog 9 #[.slice ao n cap, .int .i64 z] W fun e w' => e = .returned (.bool (ordB z (-1, 0) l)) ∧ Below W.heap.size W w') := fun W hb => rordered_any ao n cap l z W (hS.below hb)
  clear hS
  generalize ordB z (-1, 0) l = R at *
  go_enter Try.func3, Try.ntmps3
  go_wp2_with fail
  refine L1.mono ?_
  rintro e w1 ⟨rfl, hb1⟩
  have L2 := HL2.out w1 hb1
  have R1 : Hid (Below w.heap.size w w1) := hb1
  clear hb1 L1
  go_wp2_with fail
  refine L2.mono ?_
  rintro e w2 ⟨rfl, hb2⟩
  have R2 : Hid (Below w.heap.size w w2) := R1.out.trans (hb2.mono R1.out.size)
  clear hb2 L2
  have L3 := awake_any w2
  go_wp2_with fail
  refine L3.mono ?_
  rintro e w3 ⟨rfl, hb3⟩
  have R3 : Hid (Below w.heap.size w w3) := R2.out.trans (hb3.mono R2.out.size)
  clear hb3 L3
  go_wp2
  go_ret
  exact ⟨rfl, R3.out⟩
theorem fits_any (x y z : Int) (g : Nat) (w : World) (hg : w.cell? ⟨g, 0, none⟩ = some (.int .i64 z)) :
    Calls Try.prog 17 #[.agg #[.int .i64 x, .int .i64 y], .pointer (some ⟨g, 0, none⟩)] w fun e w' => e = .returned (.bool (decide (0 ≤ x) && decide (x ≤ y) && decide (y ≤ z))) ∧ Below w.heap.size w w' := by
  have hlt := World.block_lt_of_cell? w _ hg
  simp only at hlt
  have d : ∀ o, (w.alloc o).cell? ⟨g, 0, none⟩ = some (.int .i64 z) := fun o => (World.cell?_of_block (Below.heap_alloc w o g hlt)).trans hg
  go_enter Try.func17, Try.ntmps17
  go_wp2
  all_goals (go_ret; refine ⟨ret_bool ?_, (Below.refl _ _).alloc (Nat.le_refl _) _⟩; rw [Bool.eq_iff_iff]; simp; try omega)
theorem two_val (x y u v z : Int) : ordB z (-1, 0) [[(x, y)], [(u, v)]] = ((decide (0 ≤ x) && decide (x ≤ y) && decide (y ≤ z)) && (decide (0 ≤ u) && decide (u ≤ v) && decide (v ≤ z)) && decide (y ≤ u) && (!(decide (x = u) && decide (y = v)) || decide (x < y))) := by
  rw [Bool.eq_iff_iff]
  simp only [ordB, List.length_cons, List.length_nil, List.getD_cons_zero, Nat.zero_add, Nat.one_ne_zero, if_false, Bool.and_true, Bool.and_eq_true, og_iff, decide_eq_true_eq, Bool.or_eq_true, Bool.not_eq_true', Bool.and_eq_false_iff, decide_eq_false_iff_not]
  omega
theorem sz_alloc (w : World) (o : Obj) : (w.alloc o).heap.size = w.heap.size + 1 := by simp
theorem no1 (x y z : Int) (R : Bool) (b c : Bool) (h : (decide (0 ≤ x) && decide (x ≤ y) && decide (y ≤ z)) = false) : ((decide (0 ≤ x) && decide (x ≤ y) && decide (y ≤ z)) && R && b && c) = false := by rw [h]; rfl
set_option maxHeartbeats 2000000 in
theorem two_walk (x y u v z : Int) (w : World) :
    Calls Try.prog 7 #[.agg #[.int .i64 x, .int .i64 y], .agg #[.int .i64 u, .int .i64 v], .int .i64 z] w fun e w' => e = .returned (.bool true) ∧ Below w.heap.size w w' := by
  have HA : Hid (∀ W, Calls Try.prog 10 #[] W fun e w' => e = .returned (.bool true) ∧ Below W.heap.size W w') := fun W => awake_any W
  have M := two_ms (((w.alloc (.cells #[.int .i64 x, .int .i64 y] 34)).alloc (.cells #[.int .i64 u, .int .i64 v] 34)).alloc (.cells #[.int .i64 z] 3)) x y u v
  have R0 : Hid (Below w.heap.size w (((((( w.alloc (.cells #[.int .i64 x, .int .i64 y] 34)).alloc (.cells #[.int .i64 u, .int .i64 v] 34)).alloc (.cells #[.int .i64 z] 3)).alloc (.cells #[.int .i64 x, .int .i64 y] 34)).alloc (.cells #[.int .i64 u, .int .i64 v] 34)).alloc (.cells #[.slice (some ⟨w.heap.size + 1 + 1 + 1, 0, none⟩) 1 1, .slice (some ⟨w.heap.size + 1 + 1 + 1 + 1, 0, none⟩) 1 1] 37))) := (below3 w _ _ _).trans ((below3 _ _ _ _).mono (by simp; omega))
  have bx : Hid (Bk (((((( w.alloc (.cells #[.int .i64 x, .int .i64 y] 34)).alloc (.cells #[.int .i64 u, .int .i64 v] 34)).alloc (.cells #[.int .i64 z] 3)).alloc (.cells #[.int .i64 x, .int .i64 y] 34)).alloc (.cells #[.int .i64 u, .int .i64 v] 34)).alloc (.cells #[.slice (some ⟨w.heap.size + 1 + 1 + 1, 0, none⟩) 1 1, .slice (some ⟨w.heap.size + 1 + 1 + 1 + 1, 0, none⟩) 1 1] 37)) w.heap.size #[.int .i64 x, .int .i64 y] 34) := (((((Bk.new w _ _).past _).past _).past _).past _).past _
  have bu : Hid (Bk (((((( w.alloc (.cells #[.int .i64 x, .int .i64 y] 34)).alloc (.cells #[.int .i64 u, .int .i64 v] 34)).alloc (.cells #[.int .i64 z] 3)).alloc (.cells #[.int .i64 x, .int .i64 y] 34)).alloc (.cells #[.int .i64 u, .int .i64 v] 34)).alloc (.cells #[.slice (some ⟨w.heap.size + 1 + 1 + 1, 0, none⟩) 1 1, .slice (some ⟨w.heap.size + 1 + 1 + 1 + 1, 0, none⟩) 1 1] 37)) (w.heap.size + 1) #[.int .i64 u, .int .i64 v] 34) := by
    have := ((((Bk.new (w.alloc (.cells #[.int .i64 x, .int .i64 y] 34)) #[.int .i64 u, .int .i64 v] 34).past (.cells #[.int .i64 z] 3)).past (.cells #[.int .i64 x, .int .i64 y] 34)).past (.cells #[.int .i64 u, .int .i64 v] 34)).past (.cells #[.slice (some ⟨w.heap.size + 1 + 1 + 1, 0, none⟩) 1 1, .slice (some ⟨w.heap.size + 1 + 1 + 1 + 1, 0, none⟩) 1 1] 37)
    simp only [sz_alloc] at this
    exact this
  have bz : Hid (Bk (((((( w.alloc (.cells #[.int .i64 x, .int .i64 y] 34)).alloc (.cells #[.int .i64 u, .int .i64 v] 34)).alloc (.cells #[.int .i64 z] 3)).alloc (.cells #[.int .i64 x, .int .i64 y] 34)).alloc (.cells #[.int .i64 u, .int .i64 v] 34)).alloc (.cells #[.slice (some ⟨w.heap.size + 1 + 1 + 1, 0, none⟩) 1 1, .slice (some ⟨w.heap.size + 1 + 1 + 1 + 1, 0, none⟩) 1 1] 37)) (w.heap.size + 1 + 1) #[.int .i64 z] 3) := by
    have := (((Bk.new ((w.alloc (.cells #[.int .i64 x, .int .i64 y] 34)).alloc (.cells #[.int .i64 u, .int .i64 v] 34)) #[.int .i64 z] 3).past (.cells #[.int .i64 x, .int .i64 y] 34)).past (.cells #[.int .i64 u, .int .i64 v] 34)).past (.cells #[.slice (some ⟨w.heap.size + 1 + 1 + 1, 0, none⟩) 1 1, .slice (some ⟨w.heap.size + 1 + 1 + 1 + 1, 0, none⟩) 1 1] 37)
    simp only [sz_alloc] at this
    exact this
  simp only [sz_alloc] at M
  have HM : Hid (MS (((((( w.alloc (.cells #[.int .i64 x, .int .i64 y] 34)).alloc (.cells #[.int .i64 u, .int .i64 v] 34)).alloc (.cells #[.int .i64 z] 3)).alloc (.cells #[.int .i64 x, .int .i64 y] 34)).alloc (.cells #[.int .i64 u, .int .i64 v] 34)).alloc (.cells #[.slice (some ⟨w.heap.size + 1 + 1 + 1, 0, none⟩) 1 1, .slice (some ⟨w.heap.size + 1 + 1 + 1 + 1, 0, none⟩) 1 1] 37)) (some ⟨w.heap.size + 1 + 1 + 1 + 1 + 1, 0, none⟩) 2 2 [[(x, y)], [(u, v)]]) := M
  clear M
  have v0 := two_val x y u v z
  generalize v1 : ordB z (-1, 0) [[(x, y)], [(u, v)]] = V at v0
  have HV : Hid (V = _) := v0
  have hV : Hid (ordB z (-1, 0) [[(x, y)], [(u, v)]] = V) := v1
  clear v0 v1
  go_enter Try.func7, Try.ntmps7
  go_wp2_with fail
  generalize (((((( w.alloc (.cells #[.int .i64 x, .int .i64 y] 34)).alloc (.cells #[.int .i64 u, .int .i64 v] 34)).alloc (.cells #[.int .i64 z] 3)).alloc (.cells #[.int .i64 x, .int .i64 y] 34)).alloc (.cells #[.int .i64 u, .int .i64 v] 34)).alloc (.cells #[.slice (some ⟨w.heap.size + 1 + 1 + 1, 0, none⟩) 1 1, .slice (some ⟨w.heap.size + 1 + 1 + 1 + 1, 0, none⟩) 1 1] 37)) = W6 at *
  refine (fits_any x y z _ _ (bz.out.cell 0 rfl)).mono ?_
  rintro e w1 ⟨rfl, hb1⟩
  have bx1 := bx.out.on hb1
  have bu1 := bu.out.on hb1
  have bz1 := bz.out.on hb1
  have HM1 : Hid (MS w1 (some ⟨w.heap.size + 1 + 1 + 1 + 1 + 1, 0, none⟩) 2 2 [[(x, y)], [(u, v)]]) := HM.out.below hb1
  have R1 : Hid (Below w.heap.size w w1) := R0.out.trans (hb1.mono R0.out.size)
  clear hb1 bx bu bz HM R0
  obtain ⟨B1, hB1⟩ : ∃ B, (decide (0 ≤ x) && decide (x ≤ y) && decide (y ≤ z)) = B := ⟨_, rfl⟩
  rw [hB1] at HV
  rw [hB1]
  have x0 := bx1.cell 0 rfl
  have x1 := bx1.cell 1 rfl
  have u0 := bu1.cell 0 rfl
  have u1 := bu1.cell 1 rfl
  have z0 := bz1.cell 0 rfl
  have HB1 : Hid ((decide (0 ≤ x) && decide (x ≤ y) && decide (y ≤ z)) = B1) := hB1
  clear hB1
  cases B1 with
  | false =>
    have hv : V = false := HV.out
    subst hv
    have L := ordered_any _ _ _ _ z w1 HM1.out
    rw [hV.out] at L
    go_wp2_with fail
    refine L.mono ?_
    rintro e w2 ⟨rfl, hb2⟩
    have R2 : Hid (Below w.heap.size w w2) := R1.out.trans (hb2.mono R1.out.size)
    clear hb2 L
    have L := HA.out w2
    go_wp2_with fail
    refine L.mono ?_
    rintro e w3 ⟨rfl, hb3⟩
    have R3 : Hid (Below w.heap.size w w3) := R2.out.trans (hb3.mono R2.out.size)
    clear hb3 L
    go_wp2
    go_ret
    exact ⟨rfl, R3.out⟩
  | true =>
    have L := fits_any u v z _ _ z0
    go_wp2_with fail
    refine L.mono ?_
    rintro e w2 ⟨rfl, hb2⟩
    have bx2 : Hid (Bk w2 w.heap.size #[.int .i64 x, .int .i64 y] 34) := bx1.on hb2
    have bu2 : Hid (Bk w2 (w.heap.size + 1) #[.int .i64 u, .int .i64 v] 34) := bu1.on hb2
    have bz2 : Hid (Bk w2 (w.heap.size + 1 + 1) #[.int .i64 z] 3) := bz1.on hb2
    have HM2 : Hid (MS w2 (some ⟨w.heap.size + 1 + 1 + 1 + 1 + 1, 0, none⟩) 2 2 [[(x, y)], [(u, v)]]) := HM1.out.below hb2
    have R2 : Hid (Below w.heap.size w w2) := R1.out.trans (hb2.mono R1.out.size)
    clear hb2 L bx1 bu1 bz1 HM1 x0 x1 u0 u1 z0
    obtain ⟨B2, hB2⟩ : ∃ B, (decide (0 ≤ u) && decide (u ≤ v) && decide (v ≤ z)) = B := ⟨_, rfl⟩
    rw [hB2] at HV
    rw [hB2]
    have HB2 : Hid ((decide (0 ≤ u) && decide (u ≤ v) && decide (v ≤ z)) = B2) := hB2
    clear hB2
    have x0 := bx2.out.cell 0 rfl
    have x1 := bx2.out.cell 1 rfl
    have u0 := bu2.out.cell 0 rfl
    have u1 := bu2.out.cell 1 rfl
    have z0 := bz2.out.cell 0 rfl
    have hxy : x ≤ y := by have := HB1.out; simp at this; omega
    have L := ordered_any _ _ _ _ z w2 HM2.out
    rw [hV.out] at L
    cases B2 with
    | false =>
      have hv : V = false := HV.out
      subst hv
      go_wp2_with fail
      refine L.mono ?_
      rintro e w3 ⟨rfl, hb3⟩
      have R3 : Hid (Below w.heap.size w w3) := R2.out.trans (hb3.mono R2.out.size)
      clear hb3 L
      have L := HA.out w3
      go_wp2_with fail
      refine L.mono ?_
      rintro e w4 ⟨rfl, hb4⟩
      have R4 : Hid (Below w.heap.size w w4) := R3.out.trans (hb4.mono R3.out.size)
      clear hb4 L
      go_wp2
      go_ret
      exact ⟨rfl, R4.out⟩
    | true =>
      have HL : Hid (Calls Try.prog 8 #[.slice (some ⟨w.heap.size + 1 + 1 + 1 + 1 + 1, 0, none⟩) 2 2, .int .i64 z] w2 fun e w' => e = .returned (.bool V) ∧ Below w2.heap.size w2 w') := L
      clear L
      by_cases h1 : y ≤ u
      · by_cases h2 : x = u
        · by_cases h3 : y = v
          · have hv : V = false := by rw [HV.out]; simp [h1, h2, h3] <;> omega
            subst hv
            subst h2
            subst h3
            have hnl : ¬ x < y := by omega
            have hdl : decide (x < y) = false := decide_eq_false hnl
            go_wp2_with fail
            refine HL.out.mono ?_
            rintro e w3 ⟨rfl, hb3⟩
            have R3 : Hid (Below w.heap.size w w3) := R2.out.trans (hb3.mono R2.out.size)
            clear hb3 HL
            have L := HA.out w3
            go_wp2_with fail
            refine L.mono ?_
            rintro e w4 ⟨rfl, hb4⟩
            have R4 : Hid (Below w.heap.size w w4) := R3.out.trans (hb4.mono R3.out.size)
            clear hb4 L
            go_wp2
            go_ret
            exact ⟨rfl, R4.out⟩
          · have hv : V = true := by rw [HV.out]; simp [h1, h2, h3]
            subst hv
            subst h2
            go_wp2_with fail
            refine HL.out.mono ?_
            rintro e w3 ⟨rfl, hb3⟩
            have R3 : Hid (Below w.heap.size w w3) := R2.out.trans (hb3.mono R2.out.size)
            clear hb3 HL
            have L := HA.out w3
            go_wp2_with fail
            refine L.mono ?_
            rintro e w4 ⟨rfl, hb4⟩
            have R4 : Hid (Below w.heap.size w w4) := R3.out.trans (hb4.mono R3.out.size)
            clear hb4 L
            go_wp2
            go_ret
            exact ⟨rfl, R4.out⟩
        · have hv : V = true := by rw [HV.out]; simp [h1, h2]
          subst hv
          go_wp2_with fail
          refine HL.out.mono ?_
          rintro e w3 ⟨rfl, hb3⟩
          have R3 : Hid (Below w.heap.size w w3) := R2.out.trans (hb3.mono R2.out.size)
          clear hb3 HL
          have L := HA.out w3
          go_wp2_with fail
          refine L.mono ?_
          rintro e w4 ⟨rfl, hb4⟩
          have R4 : Hid (Below w.heap.size w w4) := R3.out.trans (hb4.mono R3.out.size)
          clear hb4 L
          go_wp2
          go_ret
          exact ⟨rfl, R4.out⟩
      · have hv : V = false := by rw [HV.out]; simp [h1]
        subst hv
        have h1' : u < y := by omega
        go_wp2_with fail
        refine HL.out.mono ?_
        rintro e w3 ⟨rfl, hb3⟩
        have R3 : Hid (Below w.heap.size w w3) := R2.out.trans (hb3.mono R2.out.size)
        clear hb3 HL
        have L := HA.out w3
        go_wp2_with fail
        refine L.mono ?_
        rintro e w4 ⟨rfl, hb4⟩
        have R4 : Hid (Below w.heap.size w w4) := R3.out.trans (hb4.mono R3.out.size)
        clear hb4 L
        go_wp2
        go_ret
        exact ⟨rfl, R4.out⟩
end Go.Proofs.Ytpdkdfgcnhcmkaa.aud
