/- together and either of package width. -/
import Derived.Test.YtjblccgkocknbaaWidMeth
set_option linter.unusedVariables false
set_option linter.unusedSimpArgs false
namespace Go.Proofs.Ytjblccgkocknbaa.wid
open Go.RowKit
open Go.Proofs.Ytjblccgkocknbaa.nod
open Go.Proofs.Ytjblccgkocknbaa.rng (R RV ret_int ret_bool below_drewN info_parts own_below')

theorem fold_snoc {f : R → R → R} {l : List R} {k : Nat} {x y : R} (h : l[k]? = some y) : (l.take (k + 1)).foldl f x = f ((l.take k).foldl f x) y := by
  rw [takeX h, List.foldl_append]; rfl
theorem rv_keep {w w' : World} {ao : Option Addr} {l : List R} (h : RV w ao l) (hb : Below w.heap.size w w') : RV w' ao l := h.below hb

set_option maxHeartbeats 4000000 in
theorem together_any (ao : Option Addr) (cap : Nat) (l : List R) (w : World) (hv : RV w ao l) (hl : l.length ≤ 9223372036854775807) (hok : ∀ x ∈ l, Ok x) :
    Calls Try.prog 28 #[.slice ao l.length cap] w fun e w' => e = .returned (agg2 (l.foldl plusA (0, 0))) ∧ Below w.heap.size w w' := by
  obtain ⟨n, hn⟩ : ∃ n, l.length = n := ⟨_, rfl⟩
  have HL : Hid (l.length = n) := hn
  have HV : Hid (RV w ao l) := hv
  have HO : Hid (∀ x ∈ l, Ok x) := hok
  rw [hn] at hl ⊢
  have HB : Hid (Below w.heap.size w ((w.alloc (.cells #[.int .i64 0, .int .i64 0] 39)).alloc (.cells #[.int .i64 0, .int .i64 0] 39))) := ((Below.refl _ w).alloc (Nat.le_refl _) _).alloc (by simp) _
  have HA : Hid (Bk ((w.alloc (.cells #[.int .i64 0, .int .i64 0] 39)).alloc (.cells #[.int .i64 0, .int .i64 0] 39)) w.heap.size #[.int .i64 0, .int .i64 0] 39) := (Bk.new w _ _).past _
  have HG0 : Hid (Bk ((w.alloc (.cells #[.int .i64 0, .int .i64 0] 39)).alloc (.cells #[.int .i64 0, .int .i64 0] 39)) (w.heap.size + 1) #[.int .i64 0, .int .i64 0] 39) := by
    have := Bk.new (w.alloc (.cells #[.int .i64 0, .int .i64 0] 39)) #[.int .i64 0, .int .i64 0] 39
    unfold Hid; simpa using this
  obtain ⟨sx, hsx⟩ : ∃ sx : Int, sx = 0 := ⟨_, rfl⟩
  obtain ⟨sy, hsy⟩ : ∃ sy : Int, sy = 0 := ⟨_, rfl⟩
  have HST : Hid ((l.take 0).foldl plusA (0, 0) = (sx, sy)) := by unfold Hid; rw [hsx, hsy]; rfl
  have sx1 : 0 ≤ sx := by omega
  have sx2 : sx ≤ 1073741824 := by omega
  have sy1 : -1 ≤ sy := by omega
  have sy2 : sy ≤ 1073741824 := by omega
  have HG : Hid (Bk ((w.alloc (.cells #[.int .i64 0, .int .i64 0] 39)).alloc (.cells #[.int .i64 0, .int .i64 0] 39)) (w.heap.size + 1) #[.int .i64 sx, .int .i64 sy] 39) := by rw [hsx, hsy]; exact HG0
  clear hv hok hn HG0 hsx hsy
  go_enter Try.func28, Try.ntmps28
  go_wp2
  go_loopw [8] (fun i wr => ∃ (j : Nat) (x y : Int), j ≤ n ∧ i = .int .i64 j ∧ Hid ((l.take j).foldl plusA (0, 0) = (x, y)) ∧ 0 ≤ x ∧ x ≤ 1073741824 ∧ -1 ≤ y ∧ y ≤ 1073741824 ∧ Hid (Bk wr w.heap.size #[.int .i64 0, .int .i64 0] 39) ∧ Hid (Bk wr (w.heap.size + 1) #[.int .i64 x, .int .i64 y] 39) ∧ Hid (Below w.heap.size w wr)) (fun i _ => n - (intOf i).toNat)
  case atStart => exact ⟨0, sx, sy, Nat.zero_le _, rfl, HST, sx1, sx2, sy1, sy2, HA, HG, HB⟩
  case round =>
    obtain ⟨j, x, y, hj, rfl, HE, x1, x2, y1, y2, HA', HG', HW⟩ := hrel
    clear HA HG HB HST sx1 sx2 sy1 sy2
    have hgs := HG'.out.lt
    by_cases hlt : j < n
    · obtain ⟨p, hp⟩ := getX HL.out hlt
      obtain ⟨b, off, rfl, hx⟩ := (HV.out.below HW.out).some (by have := HL.out; omega)
      obtain ⟨c0, c1⟩ := hx j p hp
      have ho := HO.out p (List.mem_of_getElem? hp)
      obtain ⟨p1, p2⟩ := p
      obtain ⟨o1, o2, o3, o4⟩ := ho
      simp only at c0 c1 o1 o2 o3 o4
      have HN : Hid ((l.take (j + 1)).foldl plusA (0, 0) = plusA (x, y) (p1, p2)) := by unfold Hid; rw [fold_snoc hp, HE.out]
      have g0 := HG'.out.cell 0 (u := .int .i64 x) rfl
      have g1 := HG'.out.cell 1 (u := .int .i64 y) rfl
      have g2 := HG'.out.frozen 0
      have g3 := HG'.out.frozen 1
      have hsz := HW.out.size
      have HS : Hid (∀ X Y o, Bk (((wr.setCell ⟨w.heap.size + 1, 0, none⟩ X).setCell ⟨w.heap.size + 1, 1, none⟩ Y).alloc o) w.heap.size #[.int .i64 0, .int .i64 0] 39 ∧ Bk (((wr.setCell ⟨w.heap.size + 1, 0, none⟩ X).setCell ⟨w.heap.size + 1, 1, none⟩ Y).alloc o) (w.heap.size + 1) #[X, Y] 39 ∧ Below w.heap.size w (((wr.setCell ⟨w.heap.size + 1, 0, none⟩ X).setCell ⟨w.heap.size + 1, 1, none⟩ Y).alloc o)) := fun X Y o => by
        refine ⟨Bk.past ?_ o, Bk.past (HG'.out.set2 X Y) o, ((HW.out.setCell (p := ⟨w.heap.size + 1, 0, none⟩) (by simp only; omega) X).setCell (p := ⟨w.heap.size + 1, 1, none⟩) (by simp only; omega) Y).alloc (by simp [World.setCell]; omega) o⟩
        have b1 : Below (w.heap.size + 1) wr ((wr.setCell ⟨w.heap.size + 1, 0, none⟩ X).setCell ⟨w.heap.size + 1, 1, none⟩ Y) := ((Below.refl _ wr).setCell (p := ⟨w.heap.size + 1, 0, none⟩) (by simp only; omega) X).setCell (p := ⟨w.heap.size + 1, 1, none⟩) (by simp only; omega) Y
        exact HA'.out.keep b1 (by omega)
      clear hx hp HE HV HO HW HA' HG'
      by_cases q : y = -1
      · subst q
        have HM : Hid ((l.take (j + 1)).foldl plusA (0, 0) = (min (x + p1) 1073741824, -1)) := by
          unfold Hid; rw [HN.out]; unfold plusA; simp only; rw [if_pos (by simp)]
        obtain ⟨X, hX⟩ : ∃ X, min (x + p1) 1073741824 = X := ⟨_, rfl⟩
        have hX' : (if 1073741824 < x + p1 then 1073741824 else x + p1) = X := by rw [← hX]; split <;> omega
        rw [hX] at HM
        clear HN
        go_wp2
        go_roundw
        case rel => exact ⟨j + 1, _, _, by omega, by go_num, HM, by omega, by omega, by omega, by omega, (HS.out _ _ _).1, (HS.out _ _ _).2.1, (HS.out _ _ _).2.2⟩
        case measure => simp [intOf]; omega
      by_cases q2 : p2 = -1
      · subst q2
        have HM : Hid ((l.take (j + 1)).foldl plusA (0, 0) = (min (x + p1) 1073741824, -1)) := by
          unfold Hid; rw [HN.out]; unfold plusA; simp only; rw [if_pos (by simp)]
        obtain ⟨X, hX⟩ : ∃ X, min (x + p1) 1073741824 = X := ⟨_, rfl⟩
        have hX' : (if 1073741824 < x + p1 then 1073741824 else x + p1) = X := by rw [← hX]; split <;> omega
        rw [hX] at HM
        clear HN
        go_wp2
        go_roundw
        case rel => exact ⟨j + 1, _, _, by omega, by go_num, HM, by omega, by omega, by omega, by omega, (HS.out _ _ _).1, (HS.out _ _ _).2.1, (HS.out _ _ _).2.2⟩
        case measure => simp [intOf]; omega
      have q' : (y == -1) = false := by simpa using q
      have q2' : (p2 == -1) = false := by simpa using q2
      have HM : Hid ((l.take (j + 1)).foldl plusA (0, 0) = (min (x + p1) 1073741824, min (y + p2) 1073741824)) := by
        unfold Hid; rw [HN.out]; unfold plusA; simp only; rw [if_neg (by omega)]
      obtain ⟨X, hX⟩ : ∃ X, min (x + p1) 1073741824 = X := ⟨_, rfl⟩
      have hX' : (if 1073741824 < x + p1 then 1073741824 else x + p1) = X := by rw [← hX]; split <;> omega
      obtain ⟨Y, hY⟩ : ∃ Y, min (y + p2) 1073741824 = Y := ⟨_, rfl⟩
      have hY' : (if 1073741824 < y + p2 then 1073741824 else y + p2) = Y := by rw [← hY]; split <;> omega
      rw [hX, hY] at HM
      have z1 : 0 ≤ X ∧ X ≤ 1073741824 := by omega
      have z2 : -1 ≤ Y ∧ Y ≤ 1073741824 := by omega
      clear HN
      go_wp2
      go_roundw
      case rel => exact ⟨j + 1, _, _, by omega, by go_num, HM, z1.1, z1.2, z2.1, z2.2, (HS.out _ _ _).1, (HS.out _ _ _).2.1, (HS.out _ _ _).2.2⟩
      case measure => simp [intOf]; omega
    · have HM : Hid (l.foldl plusA (0, 0) = (x, y)) := by
        unfold Hid; rw [← HE.out, List.take_of_length_le (by have := HL.out; omega)]
      have g0 := HG'.out.cell 0 (u := .int .i64 x) rfl
      have g1 := HG'.out.cell 1 (u := .int .i64 y) rfl
      have a0 := HA'.out.cell 0 (u := .int .i64 0) rfl
      have a1 := HA'.out.cell 1 (u := .int .i64 0) rfl
      have a2 := HA'.out.frozen 0
      have a3 := HA'.out.frozen 1
      have HF : Hid (∀ X Y, Below w.heap.size w ((wr.setCell ⟨w.heap.size, 0, none⟩ X).setCell ⟨w.heap.size, 1, none⟩ Y)) := fun X Y => (HW.out.setCell (p := ⟨w.heap.size, 0, none⟩) (Nat.le_refl _) X).setCell (p := ⟨w.heap.size, 1, none⟩) (Nat.le_refl _) Y
      have HA2 : Hid (∀ X Y, Bk ((wr.setCell ⟨w.heap.size, 0, none⟩ X).setCell ⟨w.heap.size, 1, none⟩ Y) w.heap.size #[X, Y] 39) := fun X Y => HA'.out.set2 X Y
      clear HE HV HO HW HA' HG'
      go_wp2
      refine bodyPost_ret (results_cell_row Try.results28 _ _ w.heap.size _ #[.int .i64 x, .int .i64 y] _ _ rfl (HA2.out _ _) Try.underlying39 rfl infoAmount) rfl ?_
      exact ⟨by rw [HM.out], HF.out _ _⟩
set_option maxHeartbeats 4000000 in
theorem either_any (ao : Option Addr) (cap : Nat) (l : List R) (w : World) (hv : RV w ao l) (hl : l.length ≤ 9223372036854775807) (hok : ∀ x ∈ l, Ok x) :
    Calls Try.prog 29 #[.slice ao l.length cap] w fun e w' => e = .returned (agg2 (l.foldl orA (only l))) ∧ Below w.heap.size w w' := by
  obtain ⟨n, hn⟩ : ∃ n, l.length = n := ⟨_, rfl⟩
  have HL : Hid (l.length = n) := hn
  have HV : Hid (RV w ao l) := hv
  have HO : Hid (∀ x ∈ l, Ok x) := hok
  have C := only_any ao cap l (w.alloc (.cells #[.int .i64 0, .int .i64 0] 39)) (hv.below ((Below.refl _ w).alloc (Nat.le_refl _) _)) hl
  have hob := only_ok hok
  rw [hn] at hl C ⊢
  obtain ⟨s0, hs0⟩ : ∃ s, only l = s := ⟨_, rfl⟩
  obtain ⟨sx, sy⟩ := s0
  rw [hs0] at C hob
  have HST : Hid ((l.take 0).foldl orA (only l) = (sx, sy)) := hs0
  have BA : Hid (Below w.heap.size w (w.alloc (.cells #[.int .i64 0, .int .i64 0] 39))) := (Below.refl _ w).alloc (Nat.le_refl _) _
  obtain ⟨sx1, sx2, sy1, sy2⟩ := hob
  simp only at sx1 sx2 sy1 sy2 C
  clear hv hok hn hs0
  go_enter Try.func29, Try.ntmps29
  go_wp2_with (go_at_call 25; refine C.mono ?_; rintro e w1 ⟨rfl, d⟩; have D : Hid (Below _ _ w1) := d; clear d)
  have hD : w.heap.size + 1 ≤ w1.heap.size := by have := D.out.size; simpa using this
  have HB0 : Below w.heap.size w w1 := BA.out.trans ⟨D.out.os, D.out.tape, D.out.output, D.out.size, fun k hk => D.out.block k (by simp; omega)⟩
  have HB : Hid (Below w.heap.size w (w1.alloc (.cells #[.int .i64 sx, .int .i64 sy] 39))) := HB0.alloc (by omega) _
  have HA : Hid (Bk (w1.alloc (.cells #[.int .i64 sx, .int .i64 sy] 39)) w.heap.size #[.int .i64 0, .int .i64 0] 39) := ((Bk.new w _ _).keep D.out (by simp)).past _
  have HG : Hid (Bk (w1.alloc (.cells #[.int .i64 sx, .int .i64 sy] 39)) w1.heap.size #[.int .i64 sx, .int .i64 sy] 39) := Bk.new w1 _ _
  clear C BA D HB0
  go_loopw [10] (fun i wr => ∃ (j : Nat) (x y : Int), j ≤ n ∧ i = .int .i64 j ∧ Hid ((l.take j).foldl orA (only l) = (x, y)) ∧ 0 ≤ x ∧ x ≤ 1073741824 ∧ -1 ≤ y ∧ y ≤ 1073741824 ∧ Hid (Bk wr w.heap.size #[.int .i64 0, .int .i64 0] 39) ∧ Hid (Bk wr w1.heap.size #[.int .i64 x, .int .i64 y] 39) ∧ Hid (Below w.heap.size w wr)) (fun i _ => n - (intOf i).toNat)
  case atStart => exact ⟨0, sx, sy, Nat.zero_le _, rfl, HST, sx1, sx2, sy1, sy2, HA, HG, HB⟩
  case round =>
    obtain ⟨j, x, y, hj, rfl, HE, x1, x2, y1, y2, HA', HG', HW⟩ := hrel
    clear HA HG HB HST sx1 sx2 sy1 sy2
    have hgs := HG'.out.lt
    by_cases hlt : j < n
    · obtain ⟨p, hp⟩ := getX HL.out hlt
      obtain ⟨b, off, rfl, hx⟩ := (HV.out.below HW.out).some (by have := HL.out; omega)
      obtain ⟨c0, c1⟩ := hx j p hp
      have ho := HO.out p (List.mem_of_getElem? hp)
      obtain ⟨p1, p2⟩ := p
      obtain ⟨o1, o2, o3, o4⟩ := ho
      simp only at c0 c1 o1 o2 o3 o4
      have HN : Hid ((l.take (j + 1)).foldl orA (only l) = orA (x, y) (p1, p2)) := by unfold Hid; rw [fold_snoc hp, HE.out]
      have g0 := HG'.out.cell 0 (u := .int .i64 x) rfl
      have g1 := HG'.out.cell 1 (u := .int .i64 y) rfl
      have g2 := HG'.out.frozen 0
      have g3 := HG'.out.frozen 1
      have hsz := HW.out.size
      have HS : Hid (∀ X Y o, Bk (((wr.setCell ⟨w1.heap.size, 0, none⟩ X).setCell ⟨w1.heap.size, 1, none⟩ Y).alloc o) w.heap.size #[.int .i64 0, .int .i64 0] 39 ∧ Bk (((wr.setCell ⟨w1.heap.size, 0, none⟩ X).setCell ⟨w1.heap.size, 1, none⟩ Y).alloc o) w1.heap.size #[X, Y] 39 ∧ Below w.heap.size w (((wr.setCell ⟨w1.heap.size, 0, none⟩ X).setCell ⟨w1.heap.size, 1, none⟩ Y).alloc o)) := fun X Y o => by
        refine ⟨Bk.past ?_ o, Bk.past (HG'.out.set2 X Y) o, ((HW.out.setCell (p := ⟨w1.heap.size, 0, none⟩) (by simp only; omega) X).setCell (p := ⟨w1.heap.size, 1, none⟩) (by simp only; omega) Y).alloc (by simp [World.setCell]; omega) o⟩
        have b1 : Below (w.heap.size + 1) wr ((wr.setCell ⟨w1.heap.size, 0, none⟩ X).setCell ⟨w1.heap.size, 1, none⟩ Y) := ((Below.refl _ wr).setCell (p := ⟨w1.heap.size, 0, none⟩) (by simp only; omega) X).setCell (p := ⟨w1.heap.size, 1, none⟩) (by simp only; omega) Y
        exact HA'.out.keep b1 (by omega)
      clear hx hp HE HV HO HW HA' HG'
      by_cases q : y = -1
      · subst q
        have HM : Hid ((l.take (j + 1)).foldl orA (only l) = (min x p1, -1)) := by
          unfold Hid; rw [HN.out]; unfold orA; simp only; rw [if_pos (by simp)]
        obtain ⟨X, hX⟩ : ∃ X, min x p1 = X := ⟨_, rfl⟩
        have hX' : (if p1 < x then p1 else x) = X := by rw [← hX]; split <;> omega
        rw [hX] at HM
        clear HN
        go_wp2
        go_roundw
        case rel => exact ⟨j + 1, _, _, by omega, by go_num, HM, by omega, by omega, by omega, by omega, (HS.out _ _ _).1, (HS.out _ _ _).2.1, (HS.out _ _ _).2.2⟩
        case measure => simp [intOf]; omega
      by_cases q2 : p2 = -1
      · subst q2
        have HM : Hid ((l.take (j + 1)).foldl orA (only l) = (min x p1, -1)) := by
          unfold Hid; rw [HN.out]; unfold orA; simp only; rw [if_pos (by simp)]
        obtain ⟨X, hX⟩ : ∃ X, min x p1 = X := ⟨_, rfl⟩
        have hX' : (if p1 < x then p1 else x) = X := by rw [← hX]; split <;> omega
        rw [hX] at HM
        clear HN
        go_wp2
        go_roundw
        case rel => exact ⟨j + 1, _, _, by omega, by go_num, HM, by omega, by omega, by omega, by omega, (HS.out _ _ _).1, (HS.out _ _ _).2.1, (HS.out _ _ _).2.2⟩
        case measure => simp [intOf]; omega
      have q' : (y == -1) = false := by simpa using q
      have q2' : (p2 == -1) = false := by simpa using q2
      have HM : Hid ((l.take (j + 1)).foldl orA (only l) = (min x p1, max y p2)) := by
        unfold Hid; rw [HN.out]; unfold orA; simp only; rw [if_neg (by omega)]
      obtain ⟨X, hX⟩ : ∃ X, min x p1 = X := ⟨_, rfl⟩
      have hX' : (if p1 < x then p1 else x) = X := by rw [← hX]; split <;> omega
      obtain ⟨Y, hY⟩ : ∃ Y, max y p2 = Y := ⟨_, rfl⟩
      have hY' : (if y < p2 then p2 else y) = Y := by rw [← hY]; split <;> omega
      rw [hX, hY] at HM
      have z1 : 0 ≤ X ∧ X ≤ 1073741824 := by omega
      have z2 : -1 ≤ Y ∧ Y ≤ 1073741824 := by omega
      clear HN
      go_wp2
      go_roundw
      case rel => exact ⟨j + 1, _, _, by omega, by go_num, HM, z1.1, z1.2, z2.1, z2.2, (HS.out _ _ _).1, (HS.out _ _ _).2.1, (HS.out _ _ _).2.2⟩
      case measure => simp [intOf]; omega
    · have HM : Hid (l.foldl orA (only l) = (x, y)) := by
        unfold Hid; rw [← HE.out, List.take_of_length_le (by have := HL.out; omega)]
      have g0 := HG'.out.cell 0 (u := .int .i64 x) rfl
      have g1 := HG'.out.cell 1 (u := .int .i64 y) rfl
      have a0 := HA'.out.cell 0 (u := .int .i64 0) rfl
      have a1 := HA'.out.cell 1 (u := .int .i64 0) rfl
      have a2 := HA'.out.frozen 0
      have a3 := HA'.out.frozen 1
      have HF : Hid (∀ X Y, Below w.heap.size w ((wr.setCell ⟨w.heap.size, 0, none⟩ X).setCell ⟨w.heap.size, 1, none⟩ Y)) := fun X Y => (HW.out.setCell (p := ⟨w.heap.size, 0, none⟩) (Nat.le_refl _) X).setCell (p := ⟨w.heap.size, 1, none⟩) (Nat.le_refl _) Y
      have HA2 : Hid (∀ X Y, Bk ((wr.setCell ⟨w.heap.size, 0, none⟩ X).setCell ⟨w.heap.size, 1, none⟩ Y) w.heap.size #[X, Y] 39) := fun X Y => HA'.out.set2 X Y
      clear HE HV HO HW HA' HG'
      go_wp2
      refine bodyPost_ret (results_cell_row Try.results29 _ _ w.heap.size _ #[.int .i64 x, .int .i64 y] _ _ rfl (HA2.out _ _) Try.underlying39 rfl infoAmount) rfl ?_
      exact ⟨by rw [HM.out], HF.out _ _⟩
end Go.Proofs.Ytjblccgkocknbaa.wid
