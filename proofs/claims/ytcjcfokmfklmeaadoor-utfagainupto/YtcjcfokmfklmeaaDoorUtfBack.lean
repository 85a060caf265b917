/- A code point's bytes are one item, of it; the walk of UtfBack. -/
import Derived.Test.YtcjcfokmfklmeaaDoorUtfBytes
import Derived.Test.YtcjcfokmfklmeaaDoorUtfEqual
set_option linter.unusedVariables false
set_option linter.unusedSimpArgs false
namespace Go.Proofs.YtcjcfokmfklmeaaDoor.utf
open Go.RowKit

theorem it_1 (f : Nat → Int) (n a : Nat) (s : sz (f a) = 1) : it f n a = (hb (f a), a + 1, true) := by
  unfold it; rw [if_neg (by omega), s]; rfl
theorem it_2 (f : Nat → Int) (n a : Nat) (s : sz (f a) = 2) (h1 : a + 1 < n ∧ lo (f a) ≤ f (a + 1) ∧ f (a + 1) ≤ hi (f a)) : it f n a = (hb (f a) * 64 + f (a + 1) % 64, a + 2, true) := by
  unfold it; rw [if_neg (by omega), s, run_go _ _ _ _ _ _ _ (by decide) h1]; rfl
theorem it_3 (f : Nat → Int) (n a : Nat) (s : sz (f a) = 3) (h1 : a + 1 < n ∧ lo (f a) ≤ f (a + 1) ∧ f (a + 1) ≤ hi (f a)) (h2 : a + 2 < n ∧ 128 ≤ f (a + 2) ∧ f (a + 2) ≤ 191) : it f n a = ((hb (f a) * 64 + f (a + 1) % 64) * 64 + f (a + 2) % 64, a + 3, true) := by
  unfold it; rw [if_neg (by omega), s, run_go _ _ _ _ _ _ _ (by decide) h1, run_go _ _ _ _ _ _ _ (by decide) h2]; rfl
theorem it_4 (f : Nat → Int) (n a : Nat) (s : sz (f a) = 4) (h1 : a + 1 < n ∧ lo (f a) ≤ f (a + 1) ∧ f (a + 1) ≤ hi (f a)) (h2 : a + 2 < n ∧ 128 ≤ f (a + 2) ∧ f (a + 2) ≤ 191) (h3 : a + 3 < n ∧ 128 ≤ f (a + 3) ∧ f (a + 3) ≤ 191) :
    it f n a = (((hb (f a) * 64 + f (a + 1) % 64) * 64 + f (a + 2) % 64) * 64 + f (a + 3) % 64, a + 4, true) := by
  unfold it; rw [if_neg (by omega), s, run_go _ _ _ _ _ _ _ (by decide) h1, run_go _ _ _ _ _ _ _ (by decide) h2, run_go _ _ _ _ _ _ _ (by decide) h3]; rfl

theorem it_enc (r : Int) (h : len r ≠ 0) : it (fun i => (enc r).getD i 0) (enc r).length 0 = (r, (enc r).length, true) := by
  obtain ⟨h0, h1, h2, c | c | c | c⟩ := len_cases r h
  · have e : enc r = [r] := by unfold enc; rw [if_pos c.1]
    rw [e]
    have s : sz r = 1 := by unfold sz; (repeat' split) <;> omega
    have b : hb r = r := by unfold hb; (repeat' split) <;> omega
    rw [it_1 _ _ _ s]
    simp [b]
  · have e : enc r = [192 + r / 64, 128 + r % 64] := by unfold enc; rw [if_neg (by omega), if_pos c.1]
    rw [e]
    have s : sz (192 + r / 64) = 2 := by unfold sz; (repeat' split) <;> omega
    have b : hb (192 + r / 64) = r / 64 := by unfold hb; (repeat' split) <;> omega
    have l : lo (192 + r / 64) ≤ 128 + r % 64 := by unfold lo; (repeat' split) <;> omega
    have m : 128 + r % 64 ≤ hi (192 + r / 64) := by unfold hi; (repeat' split) <;> omega
    rw [it_2 _ _ _ s ⟨by simp, l, m⟩]
    show (hb (192 + r / 64) * 64 + (128 + r % 64) % 64, 2, true) = (r, 2, true)
    rw [b, show r / 64 * 64 + (128 + r % 64) % 64 = r from by omega]
  · have e : enc r = [224 + r / 64 / 64, 128 + r / 64 % 64, 128 + r % 64] := by unfold enc; rw [if_neg (by omega), if_neg (by omega), if_pos c.1]
    rw [e]
    have s : sz (224 + r / 64 / 64) = 3 := by unfold sz; (repeat' split) <;> omega
    have b : hb (224 + r / 64 / 64) = r / 64 / 64 := by unfold hb; (repeat' split) <;> omega
    have l : lo (224 + r / 64 / 64) ≤ 128 + r / 64 % 64 := by unfold lo; (repeat' split) <;> omega
    have m : 128 + r / 64 % 64 ≤ hi (224 + r / 64 / 64) := by unfold hi; (repeat' split) <;> omega
    rw [it_3 _ _ _ s ⟨by simp, l, m⟩ ⟨by simp, (show (128 : Int) ≤ 128 + r % 64 from by omega), (show 128 + r % 64 ≤ 191 from by omega)⟩]
    show ((hb (224 + r / 64 / 64) * 64 + (128 + r / 64 % 64) % 64) * 64 + (128 + r % 64) % 64, 3, true) = (r, 3, true)
    rw [b, show (r / 64 / 64 * 64 + (128 + r / 64 % 64) % 64) * 64 + (128 + r % 64) % 64 = r from by omega]
  · have e : enc r = [240 + r / 64 / 64 / 64, 128 + r / 64 / 64 % 64, 128 + r / 64 % 64, 128 + r % 64] := by unfold enc; rw [if_neg (by omega), if_neg (by omega), if_neg (by omega), if_pos c.1]
    rw [e]
    have s : sz (240 + r / 64 / 64 / 64) = 4 := by unfold sz; (repeat' split) <;> omega
    have b : hb (240 + r / 64 / 64 / 64) = r / 64 / 64 / 64 := by unfold hb; (repeat' split) <;> omega
    have l : lo (240 + r / 64 / 64 / 64) ≤ 128 + r / 64 / 64 % 64 := by unfold lo; (repeat' split) <;> omega
    have m : 128 + r / 64 / 64 % 64 ≤ hi (240 + r / 64 / 64 / 64) := by unfold hi; (repeat' split) <;> omega
    rw [it_4 _ _ _ s ⟨by simp, l, m⟩ ⟨by simp, (show (128 : Int) ≤ 128 + r / 64 % 64 from by omega), (show 128 + r / 64 % 64 ≤ 191 from by omega)⟩ ⟨by simp, (show (128 : Int) ≤ 128 + r % 64 from by omega), (show 128 + r % 64 ≤ 191 from by omega)⟩]
    show (((hb (240 + r / 64 / 64 / 64) * 64 + (128 + r / 64 / 64 % 64) % 64) * 64 + (128 + r / 64 % 64) % 64) * 64 + (128 + r % 64) % 64, 4, true) = (r, 4, true)
    rw [b, show ((r / 64 / 64 / 64 * 64 + (128 + r / 64 / 64 % 64) % 64) * 64 + (128 + r / 64 % 64) % 64) * 64 + (128 + r % 64) % 64 = r from by omega]

theorem enc_pos (r : Int) (h : len r ≠ 0) : 0 < (enc r).length ∧ (enc r).length ≤ 4 := by
  obtain ⟨h0, h1, h2, c | c | c | c⟩ := len_cases r h <;> unfold enc <;> simp [c.1]
theorem enc_range (r : Int) : ∀ i, 0 ≤ (enc r).getD i 0 ∧ (enc r).getD i 0 ≤ 255 := by
  by_cases h : len r = 0
  · intro i
    have e : enc r = [] := by unfold enc; simp [h]
    rw [e]; simp
  · obtain ⟨h0, h1, h2, c | c | c | c⟩ := len_cases r h
    all_goals
      intro i
      unfold enc
      simp only [c.1]
      match i with
      | 0 => simp; omega
      | 1 => simp; try omega
      | 2 => simp; try omega
      | 3 => simp; try omega
      | k + 4 => simp

theorem items_enc (r : Int) (h : len r ≠ 0) : items (fun i => (enc r).getD i 0) (enc r).length 0 = [(r, 0, (enc r).length)] := by
  rw [items_step _ _ _ (enc_pos r h).1, it_enc r h, items_end _ _ _ (Nat.le_refl _)]
theorem valid_enc (r : Int) (h : len r ≠ 0) : valid (fun i => (enc r).getD i 0) (enc r).length 0 = true := by
  rw [valid_step _ _ _ (enc_pos r h).1, it_enc r h, valid_end _ _ _ (Nat.le_refl _)]; rfl

theorem isB_block {w : World} {g : Nat} {xs : List Int} (h : w.heap[g]? = some (.cells (xs.map (Value.int .u8)).toArray 5 (0, 0))) : IsB w (some ⟨g, 0, none⟩) xs.length (fun i => xs.getD i 0) :=
  .inr ⟨g, 0, rfl, fun i hi => by simp [World.cell?, h, hi]⟩

theorem back_no (r : Int) (w : World) (hm : Marks w) (h : len r = 0) :
    Calls Tryd.prog 7 #[.int .i64 r] w fun e w' => e = .returned (.bool true) ∧ Below w.heap.size w w' := by
  have hc : r < 0 ∨ 1114111 < r ∨ (55296 ≤ r ∧ r ≤ 57343) := by unfold len at h; revert h; (repeat' split) <;> omega
  have E1 := enc_no r w h
  have AW := awake_any w hm
  clear hm h
  rcases hc with hc | hc | hc
  · go_enter Tryd.func7, Tryd.ntmps7
    go_wp2_with (first
      | (go_at_call 17; refine E1.mono ?_; rintro e w' ⟨rfl, hw⟩; subst hw)
      | (go_at_call 16; refine AW.mono ?_; rintro e w' ⟨rfl, hbel⟩))
    go_ret
    exact ⟨rfl, by assumption⟩
  · have hp : 0 ≤ r := by omega
    go_enter Tryd.func7, Tryd.ntmps7
    go_wp2_with (first
      | (go_at_call 17; refine E1.mono ?_; rintro e w' ⟨rfl, hw⟩; subst hw)
      | (go_at_call 16; refine AW.mono ?_; rintro e w' ⟨rfl, hbel⟩))
    go_ret
    exact ⟨rfl, by assumption⟩
  · have hp : 0 ≤ r := by omega
    have hq : r ≤ 1114111 := by omega
    obtain ⟨hc1, hc2⟩ := hc
    go_enter Tryd.func7, Tryd.ntmps7
    go_wp2_with (first
      | (go_at_call 17; refine E1.mono ?_; rintro e w' ⟨rfl, hw⟩; subst hw)
      | (go_at_call 16; refine AW.mono ?_; rintro e w' ⟨rfl, hbel⟩))
    go_ret
    exact ⟨rfl, by assumption⟩

theorem back_yes (r : Int) (w : World) (hm : Marks w) (h : len r ≠ 0) :
    Calls Tryd.prog 7 #[.int .i64 r] w fun e w' => e = .returned (.bool true) ∧ Below w.heap.size w w' := by
  have hp := enc_pos r h
  have E1 := enc_yes r w h hm
  have B1 : IsB (w.alloc (encBlock r)) (some ⟨w.heap.size, 0, none⟩) (enc r).length (fun i => (enc r).getD i 0) := isB_block (heap_alloc_new w (encBlock r))
  have V1 := valid_any _ _ (enc r).length _ _ B1 (by omega) (enc_range r)
  rw [valid_enc r h] at V1
  have D1 := fun w2 (hb : Below (w.alloc (encBlock r)).heap.size (w.alloc (encBlock r)) w2) => decode_any _ _ (enc r).length _ _ (B1.below hb) (by omega) (enc_range r)
  rw [items_enc r h, flat_one] at D1
  have HB0 : Below w.heap.size w (w.alloc (encBlock r)) := (Below.refl _ _).alloc (Nat.le_refl _) _
  generalize encBlock r = o at *
  generalize (enc r).length = n at *
  go_enter Tryd.func7, Tryd.ntmps7
  go_wp2_with (go_at_call 17; refine E1.mono ?_; rintro e w' ⟨rfl, rfl⟩)
  refine V1.mono ?_
  rintro e w2 ⟨rfl, hb2⟩
  have hb2' := HB0.trans (hb2.mono (by simp))
  go_wp2_with fail
  refine (D1 w2 hb2).mono ?_
  rintro e w3 ⟨v, rfl, hown, hb3⟩
  have hb3' := hb2'.trans (hb3.mono hb2'.size)
  go_wp2_with fail
  refine (equal_own (l := [(r, 0, n)]) _ (hown.alloc _) (World.ownsRow_lit (base := 0) (e := 27) (size := 3) w3 #[.int .i64 r, .int .i64 0, .int .i64 n] 1 (Nat.zero_le _) (by decide) rfl)).mono ?_
  rintro e w4 ⟨rfl, hb4⟩
  have hb4' := (hb3'.alloc hb3'.size (.cells #[.int .i64 r, .int .i64 0, .int .i64 n] 27)).trans (hb4.mono (by have := hb3'.size; simp; omega))
  clear hb2 hb3 hb4 hown hb2' hb3'
  go_wp2
  go_ret
  exact ⟨rfl, hb4'⟩
theorem back_any (r : Int) (w : World) (hm : Marks w) :
    Calls Tryd.prog 7 #[.int .i64 r] w fun e w' => e = .returned (.bool true) ∧ Below w.heap.size w w' := by
  by_cases h : len r = 0
  · exact back_no r w hm h
  · exact back_yes r w hm h
end Go.Proofs.YtcjcfokmfklmeaaDoor.utf
