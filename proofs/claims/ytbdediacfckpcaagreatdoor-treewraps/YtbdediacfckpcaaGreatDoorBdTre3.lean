/- Texts that the proof leans on, one behind the other. -/
import Derived.Test.YtbdediacfckpcaaGreatDoorBdTre2
import Derived.Test.YtbdediacfckpcaaGreatDoorBdTre1

section
/- Sequence and body of one small tree. -/
set_option linter.unusedVariables false
set_option linter.unusedSimpArgs false
namespace Go.Proofs.YtbdediacfckpcaaGreatDoor.tre
open Go.RowKit nod
open Go.Proofs.YtbdediacfckpcaaGreatDoor.rng (R RV ret_int ret_bool below_drewN info_parts own_below')
open Go.Proofs.YtbdediacfckpcaaGreatDoor.tok (PEnv TX printL)

def pickS (S0 S1 S2 : Wr) : Nat → Wr
  | 0 => S0
  | 1 => S1
  | _ => S2
set_option maxRecDepth 10000 in
set_option maxHeartbeats 4000000 in
theorem seq_small {w0 W : World} {base g : Nat} {S0 S1 S2 : Wr} {kb ko cap kb2 ko2 cap2 : Nat} (c : Ctx w0 W base g S0) (hk : kb < base) (hcap : 2 ≤ cap) (e0 : At8 w0 kb ko (.agg #[.int .i64 1, .int .i64 0, .int .i64 97, .int .i64 0, .bool false, .string ByteArray.empty, .slice none 0 0, .slice none 0 0])) (e1 : At8 w0 kb (ko + 8) (.agg #[.int .i64 8, .int .i64 0, .int .i64 1, .int .i64 (-1), .bool false, .string ByteArray.empty, .slice none 0 0, .slice (some ⟨kb2, ko2, none⟩) 1 cap2])) (HCH : Hid (∀ W', Ctx w0 W' base g S0 → Calls Tryz.prog 39 #[.pointer (some ⟨g, 0, none⟩), .agg #[.int .i64 1, .int .i64 0, .int .i64 97, .int .i64 0, .bool false, .string ByteArray.empty, .slice none 0 0, .slice none 0 0]] W' fun e w' => e = .returned (.bool true) ∧ Ctx w0 w' base g S1 ∧ Kt base W' w')) (HCR : Hid (∀ W', Ctx w0 W' base g S1 → Calls Tryz.prog 39 #[.pointer (some ⟨g, 0, none⟩), .agg #[.int .i64 8, .int .i64 0, .int .i64 1, .int .i64 (-1), .bool false, .string ByteArray.empty, .slice none 0 0, .slice (some ⟨kb2, ko2, none⟩) 1 cap2]] W' fun e w' => e = .returned (.bool true) ∧ Ctx w0 w' base g S2 ∧ Kt base W' w')) :
    Calls Tryz.prog 32 #[.pointer (some ⟨g, 0, none⟩), .agg #[.int .i64 6, .int .i64 0, .int .i64 0, .int .i64 0, .bool false, .string ByteArray.empty, .slice none 0 0, .slice (some ⟨kb, ko, none⟩) 2 cap]] W fun e w' => e = .returned (.bool true) ∧ Ctx w0 w' base g S2 ∧ Kt base W w' := by
  have B1 : Below W.heap.size W (W.alloc (.cells #[.int .i64 6, .int .i64 0, .int .i64 0, .int .i64 0, .bool false, .string ByteArray.empty, .slice none 0 0, .slice (some ⟨kb, ko, none⟩) 2 cap] 25)) := (Below.refl _ W).alloc (Nat.le_refl _) _
  have HX : Hid (Bk (W.alloc (.cells #[.int .i64 6, .int .i64 0, .int .i64 0, .int .i64 0, .bool false, .string ByteArray.empty, .slice none 0 0, .slice (some ⟨kb, ko, none⟩) 2 cap] 25)) W.heap.size #[.int .i64 6, .int .i64 0, .int .i64 0, .int .i64 0, .bool false, .string ByteArray.empty, .slice none 0 0, .slice (some ⟨kb, ko, none⟩) 2 cap] 25) := Bk.new W _ _
  have HC : Hid (∀ W', Below W.heap.size W W' → Ctx w0 W' base g S0 ∧ Kt base W W') := fun W' h => ⟨c.on h, Kt.of_below h c.size⟩
  have HB : Hid (Below W.heap.size W (W.alloc (.cells #[.int .i64 6, .int .i64 0, .int .i64 0, .int .i64 0, .bool false, .string ByteArray.empty, .slice none 0 0, .slice (some ⟨kb, ko, none⟩) 2 cap] 25))) := B1
  have CO := others_seq (some ⟨kb, ko, none⟩) cap (W.alloc (.cells #[.int .i64 6, .int .i64 0, .int .i64 0, .int .i64 0, .bool false, .string ByteArray.empty, .slice none 0 0, .slice (some ⟨kb, ko, none⟩) 2 cap] 25))
  have HE0 : Hid (∀ W', Below base w0 W' → At8 W' kb ko (.agg #[.int .i64 1, .int .i64 0, .int .i64 97, .int .i64 0, .bool false, .string ByteArray.empty, .slice none 0 0, .slice none 0 0])) := fun W' h => e0.below h hk
  have HE1 : Hid (∀ W', Below base w0 W' → At8 W' kb (ko + 8) (.agg #[.int .i64 8, .int .i64 0, .int .i64 1, .int .i64 (-1), .bool false, .string ByteArray.empty, .slice none 0 0, .slice (some ⟨kb2, ko2, none⟩) 1 cap2])) := fun W' h => e1.below h hk
  clear c B1 e0 e1
  go_enter Tryz.func32, Tryz.ntmps32
  go_wp2_with (go_at_call 38; refine CO.mono ?_; rintro e w1 ⟨rfl, d⟩; have HD : Hid (Below W.heap.size W w1) := HB.out.trans (below_less d (by simp)); have x0 := (HX.out.on d).cell 0 (u := .int .i64 6) rfl; have x1 := (HX.out.on d).cell 1 (u := .int .i64 0) rfl; have x2 := (HX.out.on d).cell 2 (u := .int .i64 0) rfl; have x3 := (HX.out.on d).cell 3 (u := .int .i64 0) rfl; have x4 := (HX.out.on d).cell 4 (u := .bool false) rfl; have x5 := (HX.out.on d).cell 5 (u := .string ByteArray.empty) rfl; have x6 := (HX.out.on d).cell 6 (u := .slice none 0 0) rfl; have x7 := (HX.out.on d).cell 7 (u := .slice (some ⟨kb, ko, none⟩) 2 cap) rfl; clear d)
  go_loopw [18] (fun i wr => ∃ (j : Nat), j ≤ 2 ∧ i = .int .i64 j ∧ Hid (Ctx w0 wr base g (pickS S0 S1 S2 j)) ∧ Hid (Kt base W wr)) (fun i _ => 2 - (intOf i).toNat)
  case atStart => exact ⟨0, by omega, rfl, (HC.out _ HD.out).1, (HC.out _ HD.out).2⟩
  case round =>
    obtain ⟨j, hj, rfl, HW, HKT⟩ := hrel
    clear HD HC HX HB x0 x1 x2 x3 x4 x5 x6 x7
    by_cases hj0 : j = 0
    · have HW : Hid (Ctx w0 wr base g S0) := by have h := HW.out; rw [hj0] at h; exact h
      have hlt : j < 2 := by omega
      have hk8 : At8 wr kb (ko + j * 8) (.agg #[.int .i64 1, .int .i64 0, .int .i64 97, .int .i64 0, .bool false, .string ByteArray.empty, .slice none 0 0, .slice none 0 0]) := by rw [show ko + j * 8 = ko by rw [hj0]; omega]; exact HE0.out _ HW.out.bel
      obtain ⟨c0, c1, c2, c3, c4, c5, c6, c7, ee, k0, k1, k2, k3, k4, k5, k6, k7⟩ := hk8
      simp only [Value.agg.injEq, Array.mk.injEq, List.cons.injEq, and_true] at ee
      obtain ⟨rfl, rfl, rfl, rfl, rfl, rfl, rfl, rfl⟩ := ee
      have hsz := HW.out.size
      have HN : Hid (Ctx w0 (wr.alloc (.cells #[.int .i64 1, .int .i64 0, .int .i64 97, .int .i64 0, .bool false, .string ByteArray.empty, .slice none 0 0, .slice none 0 0] 25)) base g S0) := HW.out.on ((Below.refl _ wr).alloc (Nat.le_refl _) _)
      have HK1 : Hid (Kt base W (wr.alloc (.cells #[.int .i64 1, .int .i64 0, .int .i64 97, .int .i64 0, .bool false, .string ByteArray.empty, .slice none 0 0, .slice none 0 0] 25))) := HKT.out.trans (Kt.of_below ((Below.refl _ wr).alloc (Nat.le_refl _) _) hsz)
      have HJ : Hid (j = 0) := hj0
      clear hj0 HW HKT HE0 HE1
      go_wp2_with (go_at_call 39; refine (HCH.out _ HN.out).mono ?_; rintro e w2 ⟨rfl, d1, d2⟩; have HR : Hid (Ctx w0 w2 base g S1) := d1; have HK2 : Hid (Kt base _ w2) := d2; clear d1 d2)
      go_roundw
      case rel => exact ⟨j + 1, by have := HJ.out; omega, by go_num, by rw [HJ.out]; exact HR, HK1.out.trans HK2.out⟩
      case measure => simp [intOf]; have := HJ.out; omega
    by_cases hj0 : j = 1
    · have HW : Hid (Ctx w0 wr base g S1) := by have h := HW.out; rw [hj0] at h; exact h
      have hlt : j < 2 := by omega
      have hk8 : At8 wr kb (ko + j * 8) (.agg #[.int .i64 8, .int .i64 0, .int .i64 1, .int .i64 (-1), .bool false, .string ByteArray.empty, .slice none 0 0, .slice (some ⟨kb2, ko2, none⟩) 1 cap2]) := by rw [show ko + j * 8 = ko + 8 by rw [hj0]]; exact HE1.out _ HW.out.bel
      obtain ⟨c0, c1, c2, c3, c4, c5, c6, c7, ee, k0, k1, k2, k3, k4, k5, k6, k7⟩ := hk8
      simp only [Value.agg.injEq, Array.mk.injEq, List.cons.injEq, and_true] at ee
      obtain ⟨rfl, rfl, rfl, rfl, rfl, rfl, rfl, rfl⟩ := ee
      have hsz := HW.out.size
      have HN : Hid (Ctx w0 (wr.alloc (.cells #[.int .i64 8, .int .i64 0, .int .i64 1, .int .i64 (-1), .bool false, .string ByteArray.empty, .slice none 0 0, .slice (some ⟨kb2, ko2, none⟩) 1 cap2] 25)) base g S1) := HW.out.on ((Below.refl _ wr).alloc (Nat.le_refl _) _)
      have HK1 : Hid (Kt base W (wr.alloc (.cells #[.int .i64 8, .int .i64 0, .int .i64 1, .int .i64 (-1), .bool false, .string ByteArray.empty, .slice none 0 0, .slice (some ⟨kb2, ko2, none⟩) 1 cap2] 25))) := HKT.out.trans (Kt.of_below ((Below.refl _ wr).alloc (Nat.le_refl _) _) hsz)
      have HJ : Hid (j = 1) := hj0
      clear hj0 HW HKT HE0 HE1
      go_wp2_with (go_at_call 39; refine (HCR.out _ HN.out).mono ?_; rintro e w2 ⟨rfl, d1, d2⟩; have HR : Hid (Ctx w0 w2 base g S2) := d1; have HK2 : Hid (Kt base _ w2) := d2; clear d1 d2)
      go_roundw
      case rel => exact ⟨j + 1, by have := HJ.out; omega, by go_num, by rw [HJ.out]; exact HR, HK1.out.trans HK2.out⟩
      case measure => simp [intOf]; have := HJ.out; omega
    · have hj2 : j = 2 := by omega
      have HWF : Hid (Ctx w0 wr base g S2) := by have h := HW.out; rw [hj2] at h; exact h
      clear HE0 HE1 HCH HCR HW
      subst hj2
      go_wp2
      go_ret
      exact ⟨rfl, HWF.out, HKT.out⟩
set_option maxRecDepth 10000 in
set_option maxHeartbeats 4000000 in
theorem body_small {w0 W : World} {base g : Nat} {S0 S1 S2 : Wr} {kb ko cap kb2 ko2 cap2 : Nat} (c : Ctx w0 W base g S0) (hk : kb < base) (hcap : 2 ≤ cap) (e0 : At8 w0 kb ko (.agg #[.int .i64 1, .int .i64 0, .int .i64 97, .int .i64 0, .bool false, .string ByteArray.empty, .slice none 0 0, .slice none 0 0])) (e1 : At8 w0 kb (ko + 8) (.agg #[.int .i64 8, .int .i64 0, .int .i64 1, .int .i64 (-1), .bool false, .string ByteArray.empty, .slice none 0 0, .slice (some ⟨kb2, ko2, none⟩) 1 cap2])) (HCH : Hid (∀ W', Ctx w0 W' base g S0 → Calls Tryz.prog 39 #[.pointer (some ⟨g, 0, none⟩), .agg #[.int .i64 1, .int .i64 0, .int .i64 97, .int .i64 0, .bool false, .string ByteArray.empty, .slice none 0 0, .slice none 0 0]] W' fun e w' => e = .returned (.bool true) ∧ Ctx w0 w' base g S1 ∧ Kt base W' w')) (HCR : Hid (∀ W', Ctx w0 W' base g S1 → Calls Tryz.prog 39 #[.pointer (some ⟨g, 0, none⟩), .agg #[.int .i64 8, .int .i64 0, .int .i64 1, .int .i64 (-1), .bool false, .string ByteArray.empty, .slice none 0 0, .slice (some ⟨kb2, ko2, none⟩) 1 cap2]] W' fun e w' => e = .returned (.bool true) ∧ Ctx w0 w' base g S2 ∧ Kt base W' w')) :
    Calls Tryz.prog 22 #[.pointer (some ⟨g, 0, none⟩), .agg #[.int .i64 6, .int .i64 0, .int .i64 0, .int .i64 0, .bool false, .string ByteArray.empty, .slice none 0 0, .slice (some ⟨kb, ko, none⟩) 2 cap]] W fun e w' => e = .returned (.bool true) ∧ Ctx w0 w' base g S2 ∧ Kt base W w' := by
  have B1 : Below W.heap.size W (W.alloc (.cells #[.int .i64 6, .int .i64 0, .int .i64 0, .int .i64 0, .bool false, .string ByteArray.empty, .slice none 0 0, .slice (some ⟨kb, ko, none⟩) 2 cap] 25)) := (Below.refl _ W).alloc (Nat.le_refl _) _
  have HX : Hid (Bk (W.alloc (.cells #[.int .i64 6, .int .i64 0, .int .i64 0, .int .i64 0, .bool false, .string ByteArray.empty, .slice none 0 0, .slice (some ⟨kb, ko, none⟩) 2 cap] 25)) W.heap.size #[.int .i64 6, .int .i64 0, .int .i64 0, .int .i64 0, .bool false, .string ByteArray.empty, .slice none 0 0, .slice (some ⟨kb, ko, none⟩) 2 cap] 25) := Bk.new W _ _
  have HC : Hid (∀ W', Below W.heap.size W W' → Ctx w0 W' base g S0 ∧ Kt base W W') := fun W' h => ⟨c.on h, Kt.of_below h c.size⟩
  have HB : Hid (Below W.heap.size W (W.alloc (.cells #[.int .i64 6, .int .i64 0, .int .i64 0, .int .i64 0, .bool false, .string ByteArray.empty, .slice none 0 0, .slice (some ⟨kb, ko, none⟩) 2 cap] 25))) := B1
  have CS := seq_small (HC.out _ HB.out).1 hk hcap e0 e1 HCH HCR
  clear c B1 e0 e1
  go_enter Tryz.func22, Tryz.ntmps22
  go_wp2_with (go_at_call 32; refine CS.mono ?_; rintro e w2 ⟨rfl, d1, d2⟩; have HR : Hid (Ctx w0 w2 base g S2) := d1; have HK2 : Hid (Kt base _ w2) := d2; clear d1 d2)
  go_ret
  exact ⟨rfl, HR.out, (HC.out _ HB.out).2.trans HK2.out⟩
end Go.Proofs.YtbdediacfckpcaaGreatDoor.tre
end

section
/- String of a writer's builder. -/
set_option linter.unusedVariables false
set_option linter.unusedSimpArgs false
namespace Go.Proofs.YtbdediacfckpcaaGreatDoor.tre
open Go.RowKit nod
open Go.Proofs.YtbdediacfckpcaaGreatDoor.rng (R RV ret_int ret_bool below_drewN info_parts own_below')
open Go.Proofs.YtbdediacfckpcaaGreatDoor.tok (PEnv TX printL)

theorem cellsByte : Tryz.prog.cellsOf 5 = 1 := by kernel_rfl
set_option maxHeartbeats 2000000 in
set_option maxRecDepth 100000 in
theorem string_any (base g : Nat) (s : Wr) (w : World) (h : WrAt w base g s) (h0 : s.text ≠ []) :
    Calls Tryz.prog 23 #[.pointer (some ⟨g, 0, none⟩)] w fun e w' => e = .returned (.string ⟨s.text.toArray⟩) ∧ Below base w w' := by
  obtain ⟨hB, p, v, nv, hbk, _, hown, _⟩ := h
  have hl0 : s.text.length ≠ 0 := by simpa using h0
  obtain ⟨gb, cap, cur, rfl, hbg, hg, hnc, hcm, hcs, htake⟩ : ∃ gb cap cur, v = .slice (some ⟨gb, 0, none⟩) s.text.length cap ∧ base ≤ gb ∧ w.heap[gb]? = some (.cells cur 5 (0, 0)) ∧ s.text.length ≤ cap ∧ cap ≤ maxLen ∧ cur.size = cap * 1 ∧ cur.toList.take (s.text.length * 1) = Lib.byteCells s.text := by
    rcases hown.2 with ⟨_, hz⟩ | ⟨gb, cap, cur, hv, r⟩
    · exact absurd hz hl0
    · exact ⟨gb, cap, cur, hv, r⟩
  have c1 : w.drew.cell? ⟨g, 1, none⟩ = some (.slice (some ⟨gb, 0, none⟩) s.text.length cap) := by
    have : w.drew.heap[g]? = some (.cells #[p, .slice (some ⟨gb, 0, none⟩) s.text.length cap, .int .i64 s.room, .int .i64 s.depth, .int .i64 s.groups, nv] 52 (0, 0)) := hbk
    rw [Lib.cell_of_heap this]; rfl
  have hSD : (Builtin.unsafeSliceData_ #[48] 58 #[.slice (some ⟨gb, 0, none⟩) s.text.length cap]).run Tryz.prog w.drew = .ok (.pointer (some ⟨gb, 0, none⟩)) w.drew :=
    Lib.run_unsafeSliceData_row _ _ _ _ _ _ (by omega)
  have hUS : (Builtin.unsafeString_ #[58, 3] 9 #[.pointer (some ⟨gb, 0, none⟩), .int .i64 s.text.length]).run Tryz.prog w.drew = .ok (.string ⟨s.text.toArray⟩) (w.drew.freeze ⟨gb, 0, none⟩ s.text.length) := by
    refine Lib.run_unsafeString_row w.drew 58 3 9 5 Tryz.underlying58 cellsByte gb cur.size (by have hg' : w.drew.heap[gb]? = some (.cells cur 5 (0, 0)) := hg; simp [World.shape?, hg']) s.text h0 (by omega) (by unfold maxLen at hcm; omega) ?_
    intro j x hx
    have := hown.cells (g := gb) rfl j (.int .u8 x.toNat) (by simp [Lib.byteCells, hx])
    exact this
  have hn : s.text.length ≤ 9223372036854775807 := by unfold maxLen at hcm; omega
  have HBG : Hid (base ≤ gb) := hbg
  clear hown hbk hcs htake hg h0 hl0 hcm hB hnc hbg
  generalize (⟨s.text.toArray⟩ : ByteArray) = X at *
  generalize s.text.length = n at *
  go_enter Tryz.func23, Tryz.ntmps23
  go_wp2
  go_region
  all_goals (try go_wp2; go_ret; exact ⟨rfl, Lib.below_freeze (Below.drew (Below.refl base w)) (p := ⟨gb, 0, none⟩) HBG.out _⟩)
end Go.Proofs.YtbdediacfckpcaaGreatDoor.tre
end

section
/- The pattern of one small tree: what awake asks. -/
set_option linter.unusedVariables false
set_option linter.unusedSimpArgs false
namespace Go.Proofs.YtbdediacfckpcaaGreatDoor.tre
open Go.RowKit nod
open Go.Proofs.YtbdediacfckpcaaGreatDoor.rng (R RV ret_int ret_bool below_drewN info_parts own_below')
open Go.Proofs.YtbdediacfckpcaaGreatDoor.tok (PEnv TX printL)

def S0 : Wr := ⟨[], 2000, 0, 0, []⟩
def S1 : Wr := (S0.less 1).add ⟨#[97]⟩
def S2 : Wr := (((S1.less 1).add ⟨#[46]⟩).less 1).add ⟨#[43]⟩
theorem S2_text : S2.text = [97, 46, 43] := rfl
/-- The pattern. -/
def XA : ByteArray := ⟨S2.text.toArray⟩
set_option maxRecDepth 10000 in
set_option maxHeartbeats 4000000 in
theorem pattern_small {W : World} {kb ko cap kb2 ko2 cap2 : Nat} (E : PEnv W) (hcap : 2 ≤ cap) (hcap2 : 1 ≤ cap2) (hk : kb < W.heap.size) (hk2 : kb2 < W.heap.size) (e0 : At8 W kb ko (.agg #[.int .i64 1, .int .i64 0, .int .i64 97, .int .i64 0, .bool false, .string ByteArray.empty, .slice none 0 0, .slice none 0 0])) (e1 : At8 W kb (ko + 8) (.agg #[.int .i64 8, .int .i64 0, .int .i64 1, .int .i64 (-1), .bool false, .string ByteArray.empty, .slice none 0 0, .slice (some ⟨kb2, ko2, none⟩) 1 cap2])) (e2 : At8 W kb2 ko2 (.agg #[.int .i64 2, .int .i64 0, .int .i64 0, .int .i64 0, .bool false, .string ByteArray.empty, .slice none 0 0, .slice none 0 0])) :
    Calls Tryz.prog 18 #[.agg #[.int .i64 6, .int .i64 0, .int .i64 0, .int .i64 0, .bool false, .string ByteArray.empty, .slice none 0 0, .slice (some ⟨kb, ko, none⟩) 2 cap]] W fun e w' => e = .returned (.tuple #[.string XA, .bool true]) ∧ Below W.heap.size W w' := by
  have HB : Hid (Below W.heap.size W ((W.alloc (.cells #[.int .i64 6, .int .i64 0, .int .i64 0, .int .i64 0, .bool false, .string ByteArray.empty, .slice none 0 0, .slice (some ⟨kb, ko, none⟩) 2 cap] 25)).alloc (.cells #[.pointer none, .slice none 0 0, .int .i64 2000, .int .i64 0, .int .i64 0, .slice none 0 0] 52))) := below2 _ _ _
  have HC : Ctx W ((W.alloc (.cells #[.int .i64 6, .int .i64 0, .int .i64 0, .int .i64 0, .bool false, .string ByteArray.empty, .slice none 0 0, .slice (some ⟨kb, ko, none⟩) 2 cap] 25)).alloc (.cells #[.pointer none, .slice none 0 0, .int .i64 2000, .int .i64 0, .int .i64 0, .slice none 0 0] 52)) W.heap.size (W.heap.size + 1) S0 := ⟨E, rfl, HB.out, ⟨by omega, .pointer none, .slice none 0 0, .slice none 0 0, bk2, .inl rfl, World.ownsRow_nil _ _ _ _, World.ownsRow_nil _ _ _ _⟩, by decide, by decide⟩
  have CB := body_small (S1 := S1) (S2 := S2) HC hk hcap e0 e1 (fun W' c => part_chr c (by decide)) (fun W' c => part_rep c (by decide) hk2 e2 hcap2)
  have CST : Hid (∀ W', Ctx W W' W.heap.size (W.heap.size + 1) S2 → Calls Tryz.prog 23 #[.pointer (some ⟨W.heap.size + 1, 0, none⟩)] W' fun e w' => e = .returned (.string XA) ∧ Below W.heap.size W' w') := fun W' c => string_any _ _ S2 W' c.wr (by rw [S2_text]; simp)
  clear HC e0 e1 e2 E
  generalize XA = X at *
  go_enter Tryz.func18, Tryz.ntmps18
  go_wp2_with (first
    | (go_at_call 22; refine CB.mono ?_; rintro e w1 ⟨rfl, d1, d2⟩; have HR : Hid (Ctx W w1 W.heap.size (W.heap.size + 1) S2) := d1; clear d1 d2)
    | (go_at_call 23; refine (CST.out _ HR.out).mono ?_; rintro e w2 ⟨rfl, d⟩; have HF : Hid (Below W.heap.size W w2) := HR.out.bel.trans d; clear d))
  go_ret2
  exact ⟨rfl, HF.out⟩
set_option maxRecDepth 10000 in
set_option maxHeartbeats 4000000 in
theorem print_small {W : World} {kb ko cap kb2 ko2 cap2 : Nat} (E : PEnv W) (hcap : 2 ≤ cap) (hcap2 : 1 ≤ cap2) (hk : kb < W.heap.size) (hk2 : kb2 < W.heap.size) (e0 : At8 W kb ko (.agg #[.int .i64 1, .int .i64 0, .int .i64 97, .int .i64 0, .bool false, .string ByteArray.empty, .slice none 0 0, .slice none 0 0])) (e1 : At8 W kb (ko + 8) (.agg #[.int .i64 8, .int .i64 0, .int .i64 1, .int .i64 (-1), .bool false, .string ByteArray.empty, .slice none 0 0, .slice (some ⟨kb2, ko2, none⟩) 1 cap2])) (e2 : At8 W kb2 ko2 (.agg #[.int .i64 2, .int .i64 0, .int .i64 0, .int .i64 0, .bool false, .string ByteArray.empty, .slice none 0 0, .slice none 0 0])) :
    Calls Tryz.prog 10 #[.agg #[.int .i64 6, .int .i64 0, .int .i64 0, .int .i64 0, .bool false, .string ByteArray.empty, .slice none 0 0, .slice (some ⟨kb, ko, none⟩) 2 cap]] W fun e w' => e = .returned (.tuple #[.string XA, .int .i64 0]) ∧ Below W.heap.size W w' := by
  have HB : Hid (Below W.heap.size W (W.alloc (.cells #[.int .i64 6, .int .i64 0, .int .i64 0, .int .i64 0, .bool false, .string ByteArray.empty, .slice none 0 0, .slice (some ⟨kb, ko, none⟩) 2 cap] 25))) := (Below.refl _ W).alloc (Nat.le_refl _) _
  have CB := pattern_small (E.below HB.out) hcap hcap2 (by simp; omega) (by simp; omega) (e0.below HB.out hk) (e1.below HB.out hk) (e2.below HB.out hk2)
  clear e0 e1 e2 E
  generalize XA = X at *
  go_enter Tryz.func10, Tryz.ntmps10
  go_wp2_with (go_at_call 18; refine CB.mono ?_; rintro e w1 ⟨rfl, d⟩; have HF : Hid (Below W.heap.size W w1) := HB.out.trans (below_less d (by simp)); clear d)
  go_ret2
  exact ⟨rfl, HF.out⟩
theorem XA_is : XA.toList = [97, 46, 43] := by rw [Lib.toList_data]; rfl
set_option maxRecDepth 10000 in
set_option maxHeartbeats 4000000 in
theorem awake_any (w : World) (E : PEnv w) : Calls Tryz.prog 8 #[] w fun e w' => e = .returned (.bool true) ∧ Below w.heap.size w w' := by
  have HB : Hid (Below w.heap.size w ((w.alloc (.cells #[.int .i64 2, .int .i64 0, .int .i64 0, .int .i64 0, .bool false, .string ByteArray.empty, .slice none 0 0, .slice none 0 0] 25)).alloc (.cells #[.int .i64 1, .int .i64 0, .int .i64 97, .int .i64 0, .bool false, .string ByteArray.empty, .slice none 0 0, .slice none 0 0, .int .i64 8, .int .i64 0, .int .i64 1, .int .i64 (-1), .bool false, .string ByteArray.empty, .slice none 0 0, .slice (some ⟨w.heap.size, 0, none⟩) 1 1] 25))) := below2 _ _ _
  have b1 : Bk ((w.alloc (.cells #[.int .i64 2, .int .i64 0, .int .i64 0, .int .i64 0, .bool false, .string ByteArray.empty, .slice none 0 0, .slice none 0 0] 25)).alloc (.cells #[.int .i64 1, .int .i64 0, .int .i64 97, .int .i64 0, .bool false, .string ByteArray.empty, .slice none 0 0, .slice none 0 0, .int .i64 8, .int .i64 0, .int .i64 1, .int .i64 (-1), .bool false, .string ByteArray.empty, .slice none 0 0, .slice (some ⟨w.heap.size, 0, none⟩) 1 1] 25)) (w.heap.size + 1) #[.int .i64 1, .int .i64 0, .int .i64 97, .int .i64 0, .bool false, .string ByteArray.empty, .slice none 0 0, .slice none 0 0, .int .i64 8, .int .i64 0, .int .i64 1, .int .i64 (-1), .bool false, .string ByteArray.empty, .slice none 0 0, .slice (some ⟨w.heap.size, 0, none⟩) 1 1] 25 := bk2
  have b2 : Bk ((w.alloc (.cells #[.int .i64 2, .int .i64 0, .int .i64 0, .int .i64 0, .bool false, .string ByteArray.empty, .slice none 0 0, .slice none 0 0] 25)).alloc (.cells #[.int .i64 1, .int .i64 0, .int .i64 97, .int .i64 0, .bool false, .string ByteArray.empty, .slice none 0 0, .slice none 0 0, .int .i64 8, .int .i64 0, .int .i64 1, .int .i64 (-1), .bool false, .string ByteArray.empty, .slice none 0 0, .slice (some ⟨w.heap.size, 0, none⟩) 1 1] 25)) w.heap.size #[.int .i64 2, .int .i64 0, .int .i64 0, .int .i64 0, .bool false, .string ByteArray.empty, .slice none 0 0, .slice none 0 0] 25 := (Bk.new w _ _).past _
  have C := print_small (kb := w.heap.size + 1) (ko := 0) (cap := 2) (kb2 := w.heap.size) (ko2 := 0) (cap2 := 1) (E.below HB.out) (by omega) (by omega) (by simp) (by simp; omega)
    ⟨_, _, _, _, _, _, _, _, rfl, b1.cell 0 rfl, b1.cell 1 rfl, b1.cell 2 rfl, b1.cell 3 rfl, b1.cell 4 rfl, b1.cell 5 rfl, b1.cell 6 rfl, b1.cell 7 rfl⟩
    ⟨_, _, _, _, _, _, _, _, rfl, b1.cell 8 rfl, b1.cell 9 rfl, b1.cell 10 rfl, b1.cell 11 rfl, b1.cell 12 rfl, b1.cell 13 rfl, b1.cell 14 rfl, b1.cell 15 rfl⟩
    (at8_first b2)
  have hx := XA_is
  clear b1 b2 E
  generalize XA = X at *
  go_enter Tryz.func8, Tryz.ntmps8
  go_wp2_with (go_at_call 10; refine C.mono ?_; rintro e w1 ⟨rfl, d⟩; have HF : Hid (Below w.heap.size w w1) := HB.out.trans (below_less d (by simp; omega)); clear d)
  go_ret
  exact ⟨rfl, HF.out⟩
end Go.Proofs.YtbdediacfckpcaaGreatDoor.tre
end
