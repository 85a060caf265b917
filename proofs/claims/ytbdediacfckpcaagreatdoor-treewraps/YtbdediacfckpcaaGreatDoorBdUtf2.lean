/- Texts that the proof leans on, one behind the other. -/
import Derived.Test.YtbdediacfckpcaaGreatDoorBdUtf1
import Derived.Lib.SliceRun

section
/- What utf.Next, utf.Prev and the document's Next and Prev answer; the walk of UtfSteps. -/
set_option linter.unusedVariables false
set_option linter.unusedSimpArgs false
namespace Go.Proofs.YtbdediacfckpcaaGreatDoor.utf
open Go.RowKit

theorem next_no (ao : Option Addr) (n cap : Nat) (a : Int) (w : World) (ha : a < 0 ∨ (n : Int) ≤ a) :
    Calls Tryz.prog 138 #[.slice ao n cap, .int .i64 a] w fun e w' => e = .returned (.tuple #[.agg #[.int .i64 0, .int .i64 0, .int .i64 0], .bool false]) ∧ Below w.heap.size w w' := by
  rcases ha with ha | ha
  · go_enter Tryz.func138, Tryz.ntmps138
    go_wp2
    refine bodyPost_ret (v := .tuple #[.agg #[.int .i64 0, .int .i64 0, .int .i64 0], .bool false]) (by simp [results, Tryz.results138, go_sem]) rfl ⟨rfl, ?_⟩
    exact (Below.refl _ _).alloc (Nat.le_refl _) _
  · have hp : 0 ≤ a := by omega
    go_enter Tryz.func138, Tryz.ntmps138
    go_wp2
    refine bodyPost_ret (v := .tuple #[.agg #[.int .i64 0, .int .i64 0, .int .i64 0], .bool false]) (by simp [results, Tryz.results138, go_sem]) rfl ⟨rfl, ?_⟩
    exact (Below.refl _ _).alloc (Nat.le_refl _) _
/-- A block's cells as the walk asks for them. -/
theorem blk3 {w : World} {g : Nat} {x y z : Value} {t : TypeId} (h : w.heap[g]? = some (.cells #[x, y, z] t (0, 0))) :
    w.cell? ⟨g, 0, none⟩ = some x ∧ w.cell? ⟨g, 1, none⟩ = some y ∧ w.cell? ⟨g, 2, none⟩ = some z ∧ w.frozen? ⟨g, 0, none⟩ = false ∧ w.frozen? ⟨g, 1, none⟩ = false ∧ w.frozen? ⟨g, 2, none⟩ = false := by
  simp [World.cell?, World.frozen?, h]

theorem next_yes (b off n cap : Nat) (f : Nat → Int) (a : Nat) (w : World) (hc : ∀ i, i < n → w.cell? ⟨b, off + i, none⟩ = some (.int .u8 (f i)))
    (ha : a < n) (hn : n ≤ 9223372036854775807) (hf : ∀ i, 0 ≤ f i ∧ f i ≤ 255) :
    Calls Tryz.prog 138 #[.slice (some ⟨b, off, none⟩) n cap, .int .i64 a] w fun e w' =>
      e = .returned (.tuple #[.agg #[.int .i64 (it f n a).1, .int .i64 a, .int .i64 (it f n a).2.1], .bool true]) ∧ Below w.heap.size w w' := by
  have IT := item_any b off n cap f a (w.alloc (.cells #[.int .i64 0, .int .i64 0, .int .i64 0] 154)) (cells_alloc hc _) ha hn hf
  have HB0 := (Below.refl w.heap.size w).alloc (Nat.le_refl _) (.cells #[.int .i64 0, .int .i64 0, .int .i64 0] 154)
  have HG : Hid ((w.alloc (.cells #[.int .i64 0, .int .i64 0, .int .i64 0] 154)).heap[w.heap.size]? = some (.cells #[.int .i64 0, .int .i64 0, .int .i64 0] 154 (0, 0))) := heap_alloc_new w _
  clear hc hf
  generalize (it f n a).2.2 = K at *
  generalize (it f n a).2.1 = E at *
  generalize (it f n a).1 = R at *
  go_enter Tryz.func138, Tryz.ntmps138
  go_wp2_with fail
  refine IT.mono ?_
  rintro e w1 ⟨rfl, hb1⟩
  have hs := hb1.size
  simp only [World.size_alloc] at hs
  obtain ⟨g0, g1, g2, z0, z1, z2⟩ := blk3 ((hb1.block w.heap.size (by simp)).trans HG.out)
  have R2 := HB0.trans (hb1.mono (by simp))
  have hlt : w.heap.size < w1.heap.size := by omega
  clear IT HG hb1 HB0
  have R3 := ((R2.setCell (p := ⟨w.heap.size, 0, none⟩) (Nat.le_refl _) (.int .i64 R)).setCell (p := ⟨w.heap.size, 1, none⟩) (Nat.le_refl _) (.int .i64 a)).setCell (p := ⟨w.heap.size, 2, none⟩) (Nat.le_refl _) (.int .i64 E)
  have R4 := R3.alloc R3.size (.cells #[.int .i64 R, .int .i64 a, .int .i64 E] 154)
  clear R2 R3
  go_wp2
  refine bodyPost_ret (v := .tuple #[.agg #[.int .i64 R, .int .i64 a, .int .i64 E], .bool true]) (by simp [results, Tryz.results138, go_sem, g0, g1, g2, hlt]) rfl ⟨rfl, R4⟩

end Go.Proofs.YtbdediacfckpcaaGreatDoor.utf
end

section
/- A code point's bytes are one item, of it; the walk of UtfBack. -/
set_option linter.unusedVariables false
set_option linter.unusedSimpArgs false
namespace Go.Proofs.YtbdediacfckpcaaGreatDoor.utf
open Go.RowKit

theorem it_1 (f : Nat → Int) (n a : Nat) (s : sz (f a) = 1) : it f n a = (hb (f a), a + 1, true) := by
  unfold it; rw [if_neg (by omega), s]; rfl
theorem it_2 (f : Nat → Int) (n a : Nat) (s : sz (f a) = 2) (h1 : a + 1 < n ∧ lo (f a) ≤ f (a + 1) ∧ f (a + 1) ≤ hi (f a)) : it f n a = (hb (f a) * 64 + f (a + 1) % 64, a + 2, true) := by
  unfold it; rw [if_neg (by omega), s, run_go _ _ _ _ _ _ _ (by decide) h1]; rfl
theorem it_3 (f : Nat → Int) (n a : Nat) (s : sz (f a) = 3) (h1 : a + 1 < n ∧ lo (f a) ≤ f (a + 1) ∧ f (a + 1) ≤ hi (f a)) (h2 : a + 2 < n ∧ 128 ≤ f (a + 2) ∧ f (a + 2) ≤ 191) : it f n a = ((hb (f a) * 64 + f (a + 1) % 64) * 64 + f (a + 2) % 64, a + 3, true) := by
  unfold it; rw [if_neg (by omega), s, run_go _ _ _ _ _ _ _ (by decide) h1, run_go _ _ _ _ _ _ _ (by decide) h2]; rfl
theorem it_4 (f : Nat → Int) (n a : Nat) (s : sz (f a) = 4) (h1 : a + 1 < n ∧ lo (f a) ≤ f (a + 1) ∧ f (a + 1) ≤ hi (f a)) (h2 : a + 2 < n ∧ 128 ≤ f (a + 2) ∧ f (a + 2) ≤ 191) (h3 : a + 3 < n ∧ 128 ≤ f (a + 3) ∧ f (a + 3) ≤ 191) :
    it f n a = (((hb (f a) * 64 + f (a + 1) % 64) * 64 + f (a + 2) % 64) * 64 + f (a + 3) % 64, a + 4, true) := by
  unfold it; rw [if_neg (by omega), s, run_go _ _ _ _ _ _ _ (by decide) h1, run_go _ _ _ _ _ _ _ (by decide) h2, run_go _ _ _ _ _ _ _ (by decide) h3]; rfl

theorem it_enc (r : Int) (h : len r ≠ 0) : it (fun i => (enc r).getD i 0) (enc r).length 0 = (r, (enc r).length, true) := by
  obtain ⟨h0, h1, h2, c | c | c | c⟩ := len_cases r h
  · have e : enc r = [r] := by unfold enc; rw [if_pos c.1]
    rw [e]
    have s : sz r = 1 := by unfold sz; (repeat' split) <;> omega
    have b : hb r = r := by unfold hb; (repeat' split) <;> omega
    rw [it_1 _ _ _ s]
    simp [b]
  · have e : enc r = [192 + r / 64, 128 + r % 64] := by unfold enc; rw [if_neg (by omega), if_pos c.1]
    rw [e]
    have s : sz (192 + r / 64) = 2 := by unfold sz; (repeat' split) <;> omega
    have b : hb (192 + r / 64) = r / 64 := by unfold hb; (repeat' split) <;> omega
    have l : lo (192 + r / 64) ≤ 128 + r % 64 := by unfold lo; (repeat' split) <;> omega
    have m : 128 + r % 64 ≤ hi (192 + r / 64) := by unfold hi; (repeat' split) <;> omega
    rw [it_2 _ _ _ s ⟨by simp, l, m⟩]
    show (hb (192 + r / 64) * 64 + (128 + r % 64) % 64, 2, true) = (r, 2, true)
    rw [b, show r / 64 * 64 + (128 + r % 64) % 64 = r from by omega]
  · have e : enc r = [224 + r / 64 / 64, 128 + r / 64 % 64, 128 + r % 64] := by unfold enc; rw [if_neg (by omega), if_neg (by omega), if_pos c.1]
    rw [e]
    have s : sz (224 + r / 64 / 64) = 3 := by unfold sz; (repeat' split) <;> omega
    have b : hb (224 + r / 64 / 64) = r / 64 / 64 := by unfold hb; (repeat' split) <;> omega
    have l : lo (224 + r / 64 / 64) ≤ 128 + r / 64 % 64 := by unfold lo; (repeat' split) <;> omega
    have m : 128 + r / 64 % 64 ≤ hi (224 + r / 64 / 64) := by unfold hi; (repeat' split) <;> omega
    rw [it_3 _ _ _ s ⟨by simp, l, m⟩ ⟨by simp, (show (128 : Int) ≤ 128 + r % 64 from by omega), (show 128 + r % 64 ≤ 191 from by omega)⟩]
    show ((hb (224 + r / 64 / 64) * 64 + (128 + r / 64 % 64) % 64) * 64 + (128 + r % 64) % 64, 3, true) = (r, 3, true)
    rw [b, show (r / 64 / 64 * 64 + (128 + r / 64 % 64) % 64) * 64 + (128 + r % 64) % 64 = r from by omega]
  · have e : enc r = [240 + r / 64 / 64 / 64, 128 + r / 64 / 64 % 64, 128 + r / 64 % 64, 128 + r % 64] := by unfold enc; rw [if_neg (by omega), if_neg (by omega), if_neg (by omega), if_pos c.1]
    rw [e]
    have s : sz (240 + r / 64 / 64 / 64) = 4 := by unfold sz; (repeat' split) <;> omega
    have b : hb (240 + r / 64 / 64 / 64) = r / 64 / 64 / 64 := by unfold hb; (repeat' split) <;> omega
    have l : lo (240 + r / 64 / 64 / 64) ≤ 128 + r / 64 / 64 % 64 := by unfold lo; (repeat' split) <;> omega
    have m : 128 + r / 64 / 64 % 64 ≤ hi (240 + r / 64 / 64 / 64) := by unfold hi; (repeat' split) <;> omega
    rw [it_4 _ _ _ s ⟨by simp, l, m⟩ ⟨by simp, (show (128 : Int) ≤ 128 + r / 64 % 64 from by omega), (show 128 + r / 64 % 64 ≤ 191 from by omega)⟩ ⟨by simp, (show (128 : Int) ≤ 128 + r % 64 from by omega), (show 128 + r % 64 ≤ 191 from by omega)⟩]
    show (((hb (240 + r / 64 / 64 / 64) * 64 + (128 + r / 64 / 64 % 64) % 64) * 64 + (128 + r / 64 % 64) % 64) * 64 + (128 + r % 64) % 64, 4, true) = (r, 4, true)
    rw [b, show ((r / 64 / 64 / 64 * 64 + (128 + r / 64 / 64 % 64) % 64) * 64 + (128 + r / 64 % 64) % 64) * 64 + (128 + r % 64) % 64 = r from by omega]

theorem enc_pos (r : Int) (h : len r ≠ 0) : 0 < (enc r).length ∧ (enc r).length ≤ 4 := by
  obtain ⟨h0, h1, h2, c | c | c | c⟩ := len_cases r h <;> unfold enc <;> simp [c.1]
theorem enc_range (r : Int) : ∀ i, 0 ≤ (enc r).getD i 0 ∧ (enc r).getD i 0 ≤ 255 := by
  by_cases h : len r = 0
  · intro i
    have e : enc r = [] := by unfold enc; simp [h]
    rw [e]; simp
  · obtain ⟨h0, h1, h2, c | c | c | c⟩ := len_cases r h
    all_goals
      intro i
      unfold enc
      simp only [c.1]
      match i with
      | 0 => simp; omega
      | 1 => simp; try omega
      | 2 => simp; try omega
      | 3 => simp; try omega
      | k + 4 => simp

theorem items_enc (r : Int) (h : len r ≠ 0) : items (fun i => (enc r).getD i 0) (enc r).length 0 = [(r, 0, (enc r).length)] := by
  rw [items_step _ _ _ (enc_pos r h).1, it_enc r h, items_end _ _ _ (Nat.le_refl _)]
theorem valid_enc (r : Int) (h : len r ≠ 0) : valid (fun i => (enc r).getD i 0) (enc r).length 0 = true := by
  rw [valid_step _ _ _ (enc_pos r h).1, it_enc r h, valid_end _ _ _ (Nat.le_refl _)]; rfl

theorem isB_block {w : World} {g : Nat} {xs : List Int} (h : w.heap[g]? = some (.cells (xs.map (Value.int .u8)).toArray 5 (0, 0))) : IsB w (some ⟨g, 0, none⟩) xs.length (fun i => xs.getD i 0) :=
  .inr ⟨g, 0, rfl, fun i hi => by simp [World.cell?, h, hi]⟩

end Go.Proofs.YtbdediacfckpcaaGreatDoor.utf
end

section
/- What bytes.Clone answers of a row of bytes: a row of the same bytes; and the walk of UtfDecodes. -/
set_option linter.unusedVariables false
set_option linter.unusedSimpArgs false
namespace Go.Proofs.YtbdediacfckpcaaGreatDoor.utf
open Go.RowKit

theorem infoByte : (Tryz.prog.info? 5).map (fun i => (i.zero, i.size, i.bytes)) = some (some (.int .u8 0), 1, 1) := by kernel_rfl

/-- The first n bytes as a list. -/
def lst (f : Nat → Int) (n : Nat) : List Int := (List.range n).map f
theorem lst_length (f : Nat → Int) (n : Nat) : (lst f n).length = n := by simp [lst]
theorem lst_get (f : Nat → Int) (n i : Nat) (h : i < n) : (lst f n).getD i 0 = f i := by simp [lst, List.getD, h]
theorem lst_get? (f : Nat → Int) (n i : Nat) (h : i < n) : ((lst f n).map (Value.int .u8))[i]? = some (.int .u8 (f i)) := by simp [lst, h]

theorem bts_isB {w : World} {ao : Option Addr} {n : Nat} {f : Nat → Int} (cap : Nat) (h : IsB w ao n f) (hnil : ao = none → n = 0) : Bts w (.slice ao n cap) (lst f n) := by
  rcases h with rfl | ⟨b, off, rfl, hc⟩
  · cases ao with
    | none => exact bts_nil w 0 cap
    | some x =>
      obtain ⟨b, off, s⟩ := x
      have h0 : (loadCells ⟨b, off, s⟩ 0).run Tryz.prog w = .ok #[] w := by
        have := run_loadCells_list (P := Tryz.prog) w ⟨b, off, s⟩ [] (fun j v hj => by simp at hj)
        simpa using this
      unfold Bts
      rw [run_convert_bytes_string w 48 9 5 _ 0 cap Tryz.underlying48 Tryz.underlying5 Tryz.underlying9]
      rw [run_bytesToString w _ 0 cap [] (by simpa using h0)]
      rfl
  · have := bts_cells (w := w) (b := b) (off := off) (xs := lst f n) cap (fun i hi => by
      rw [lst_length] at hi
      rw [lst_get f n i hi]; exact hc i hi)
    rw [lst_length] at this
    exact this

theorem isB_own {w : World} {B n : Nat} {v : Value} {f : Nat → Int} (h : w.ownsRow B 5 1 v n ((lst f n).map (Value.int .u8))) :
    ∃ ao cap, v = .slice ao n cap ∧ IsB w ao n f ∧ n ≤ cap ∧ cap ≤ 9223372036854775807 ∧ (ao = none → n = 0) := by
  rcases h.2 with ⟨rfl, rfl⟩ | ⟨g, cap, cur, rfl, _, _, hc, hm, _⟩
  · exact ⟨none, 0, rfl, .inl rfl, by omega, by omega, fun _ => rfl⟩
  · unfold maxLen at hm
    exact ⟨some ⟨g, 0, none⟩, cap, rfl, .inr ⟨g, 0, rfl, fun i hi => by rw [Nat.zero_add]; exact (h.cellAt i (by omega)).trans (lst_get? f n i hi)⟩, hc, by omega, fun h => by simp at h⟩

theorem eq_self (b : Bool) : (b == b) = true := by cases b <;> rfl

end Go.Proofs.YtbdediacfckpcaaGreatDoor.utf
end

section
/- Plain mathematics: a well-formed item's code point has just its bytes, a malformed part's has not; so the bytes written anew are the bytes read where, and only where, all are well-formed. -/
set_option linter.unusedVariables false
set_option linter.unusedSimpArgs false
namespace Go.Proofs.YtbdediacfckpcaaGreatDoor.utf
open Go.RowKit

/-- The bytes from a place up to another. -/
def seg (f : Nat → Int) (a m : Nat) : List Int := (List.range m).map fun i => f (a + i)
theorem seg_split (f : Nat → Int) (a m k : Nat) : seg f a (m + k) = seg f a m ++ seg f (a + m) k := by
  unfold seg
  rw [List.range_add, List.map_append, List.map_map]
  congr 1
  apply List.map_congr_left
  intro x _
  simp [Nat.add_assoc]
theorem seg_1 (f : Nat → Int) (a : Nat) : seg f a 1 = [f a] := by simp [seg]
theorem seg_2 (f : Nat → Int) (a : Nat) : seg f a 2 = [f a, f (a + 1)] := by simp [seg, List.range_succ]
theorem seg_3 (f : Nat → Int) (a : Nat) : seg f a 3 = [f a, f (a + 1), f (a + 2)] := by simp [seg, List.range_succ]
theorem seg_4 (f : Nat → Int) (a : Nat) : seg f a 4 = [f a, f (a + 1), f (a + 2), f (a + 3)] := by simp [seg, List.range_succ]

theorem sz_range (c : Int) : (sz c = 1 → c ≤ 127) ∧ (sz c = 2 → 194 ≤ c ∧ c ≤ 223) ∧ (sz c = 3 → 224 ≤ c ∧ c ≤ 239) ∧ (sz c = 4 → 240 ≤ c ∧ c ≤ 244) := by
  unfold sz; (repeat' split) <;> omega
theorem lo_range (c : Int) : (c = 224 → lo c = 160) ∧ (c = 240 → lo c = 144) ∧ (c ≠ 224 → c ≠ 240 → lo c = 128) := by unfold lo; (repeat' split) <;> omega
theorem hi_range (c : Int) : (c = 237 → hi c = 159) ∧ (c = 244 → hi c = 143) ∧ (c ≠ 237 → c ≠ 244 → hi c = 191) := by unfold hi; (repeat' split) <;> omega

theorem len_1 (r : Int) (h0 : 0 ≤ r) (h1 : r ≤ 127) : len r = 1 := by unfold len; (repeat' split) <;> omega
theorem len_2 (r : Int) (h0 : 128 ≤ r) (h1 : r ≤ 2047) : len r = 2 := by unfold len; (repeat' split) <;> omega
theorem len_3 (r : Int) (h0 : 2048 ≤ r) (h1 : r ≤ 65535) (h2 : ¬ (55296 ≤ r ∧ r ≤ 57343)) : len r = 3 := by unfold len; (repeat' split) <;> omega
theorem len_4 (r : Int) (h0 : 65536 ≤ r) (h1 : r ≤ 1114111) : len r = 4 := by unfold len; (repeat' split) <;> omega

theorem enc_of_1 (r : Int) (c : len r = 1) : enc r = [r] := by unfold enc; rw [if_pos c]
theorem enc_of_2 (r : Int) (c : len r = 2) : enc r = [192 + r / 64, 128 + r % 64] := by unfold enc; rw [if_neg (by omega), if_pos c]
theorem enc_of_3 (r : Int) (c : len r = 3) : enc r = [224 + r / 64 / 64, 128 + r / 64 % 64, 128 + r % 64] := by unfold enc; rw [if_neg (by omega), if_neg (by omega), if_pos c]
theorem enc_of_4 (r : Int) (c : len r = 4) : enc r = [240 + r / 64 / 64 / 64, 128 + r / 64 / 64 % 64, 128 + r / 64 % 64, 128 + r % 64] := by unfold enc; rw [if_neg (by omega), if_neg (by omega), if_neg (by omega), if_pos c]

theorem it_good (f : Nat → Int) (n a : Nat) (hf : ∀ i, 0 ≤ f i ∧ f i ≤ 255) (h : (it f n a).2.2 = true) :
    len (it f n a).1 ≠ 0 ∧ enc (it f n a).1 = seg f a ((it f n a).2.1 - a) := by
  have h4 := sz_le (f a)
  have hr := sz_range (f a)
  have hl := lo_range (f a)
  have hh := hi_range (f a)
  have f0 := hf a
  have f1 := hf (a + 1)
  have f2 := hf (a + 2)
  have f3 := hf (a + 3)
  rcases (show sz (f a) = 0 ∨ sz (f a) = 1 ∨ sz (f a) = 2 ∨ sz (f a) = 3 ∨ sz (f a) = 4 from by omega) with s | s | s | s | s
  · have e : it f n a = (65533, a + 1, false) := by unfold it; rw [if_pos s]
    rw [e] at h; simp at h
  · rw [it_1 f n a s]
    have b := hb_1 (f a) s
    have l := len_1 (f a) (by omega) (by omega)
    simp only [b]
    exact ⟨by omega, by rw [enc_of_1 _ l, show a + 1 - a = 1 from by omega, seg_1]⟩
  · by_cases c1 : a + 1 < n ∧ lo (f a) ≤ f (a + 1) ∧ f (a + 1) ≤ hi (f a)
    · rw [it_2 f n a s c1, hb_2 (f a) s]
      have l := len_2 (f a % 32 * 64 + f (a + 1) % 64) (by omega) (by omega)
      refine ⟨by simp only []; omega, ?_⟩
      simp only []
      rw [enc_of_2 _ l, show a + 2 - a = 2 from by omega, seg_2]
      rw [show 192 + (f a % 32 * 64 + f (a + 1) % 64) / 64 = f a from by omega, show 128 + (f a % 32 * 64 + f (a + 1) % 64) % 64 = f (a + 1) from by omega]
    · have e : it f n a = (65533, a + 1, false) := by unfold it; rw [if_neg (by omega), s, run_stop _ _ _ _ _ _ _ (by decide) c1]
      rw [e] at h; simp at h
  · by_cases c1 : a + 1 < n ∧ lo (f a) ≤ f (a + 1) ∧ f (a + 1) ≤ hi (f a)
    · by_cases c2 : a + 2 < n ∧ 128 ≤ f (a + 2) ∧ f (a + 2) ≤ 191
      · rw [it_3 f n a s c1 c2, hb_3 (f a) s]
        have l := len_3 ((f a % 16 * 64 + f (a + 1) % 64) * 64 + f (a + 2) % 64) (by omega) (by omega) (by omega)
        refine ⟨by simp only []; omega, ?_⟩
        simp only []
        rw [enc_of_3 _ l, show a + 3 - a = 3 from by omega, seg_3]
        rw [show 224 + ((f a % 16 * 64 + f (a + 1) % 64) * 64 + f (a + 2) % 64) / 64 / 64 = f a from by omega, show 128 + ((f a % 16 * 64 + f (a + 1) % 64) * 64 + f (a + 2) % 64) / 64 % 64 = f (a + 1) from by omega, show 128 + ((f a % 16 * 64 + f (a + 1) % 64) * 64 + f (a + 2) % 64) % 64 = f (a + 2) from by omega]
      · have e : it f n a = (65533, a + 2, false) := by unfold it; rw [if_neg (by omega), s, run_go _ _ _ _ _ _ _ (by decide) c1, run_stop _ _ _ _ _ _ _ (by decide) c2]
        rw [e] at h; simp at h
    · have e : it f n a = (65533, a + 1, false) := by unfold it; rw [if_neg (by omega), s, run_stop _ _ _ _ _ _ _ (by decide) c1]
      rw [e] at h; simp at h
  · by_cases c1 : a + 1 < n ∧ lo (f a) ≤ f (a + 1) ∧ f (a + 1) ≤ hi (f a)
    · by_cases c2 : a + 2 < n ∧ 128 ≤ f (a + 2) ∧ f (a + 2) ≤ 191
      · by_cases c3 : a + 3 < n ∧ 128 ≤ f (a + 3) ∧ f (a + 3) ≤ 191
        · rw [it_4 f n a s c1 c2 c3, hb_4 (f a) s]
          have l := len_4 (((f a % 8 * 64 + f (a + 1) % 64) * 64 + f (a + 2) % 64) * 64 + f (a + 3) % 64) (by omega) (by omega)
          refine ⟨by simp only []; omega, ?_⟩
          simp only []
          rw [enc_of_4 _ l, show a + 4 - a = 4 from by omega, seg_4]
          rw [show 240 + (((f a % 8 * 64 + f (a + 1) % 64) * 64 + f (a + 2) % 64) * 64 + f (a + 3) % 64) / 64 / 64 / 64 = f a from by omega, show 128 + (((f a % 8 * 64 + f (a + 1) % 64) * 64 + f (a + 2) % 64) * 64 + f (a + 3) % 64) / 64 / 64 % 64 = f (a + 1) from by omega, show 128 + (((f a % 8 * 64 + f (a + 1) % 64) * 64 + f (a + 2) % 64) * 64 + f (a + 3) % 64) / 64 % 64 = f (a + 2) from by omega, show 128 + (((f a % 8 * 64 + f (a + 1) % 64) * 64 + f (a + 2) % 64) * 64 + f (a + 3) % 64) % 64 = f (a + 3) from by omega]
        · have e : it f n a = (65533, a + 3, false) := by unfold it; rw [if_neg (by omega), s, run_go _ _ _ _ _ _ _ (by decide) c1, run_go _ _ _ _ _ _ _ (by decide) c2, run_stop _ _ _ _ _ _ _ (by decide) c3]
          rw [e] at h; simp at h
      · have e : it f n a = (65533, a + 2, false) := by unfold it; rw [if_neg (by omega), s, run_go _ _ _ _ _ _ _ (by decide) c1, run_stop _ _ _ _ _ _ _ (by decide) c2]
        rw [e] at h; simp at h
    · have e : it f n a = (65533, a + 1, false) := by unfold it; rw [if_neg (by omega), s, run_stop _ _ _ _ _ _ _ (by decide) c1]
      rw [e] at h; simp at h

theorem run_bad (f : Nat → Int) (n : Nat) : ∀ k r e l h, (run f n k r e l h).2.2 = false → (run f n k r e l h).1 = 65533 := by
  intro k
  induction k with
  | zero => intro r e l h; simp [run]
  | succ k ih =>
    intro r e l h
    unfold run
    split
    · exact ih _ _ _ _
    · simp
theorem it_bad (f : Nat → Int) (n a : Nat) (h : (it f n a).2.2 = false) : (it f n a).1 = 65533 := by
  unfold it at h ⊢
  split
  · rfl
  · rename_i hs
    rw [if_neg hs] at h
    exact run_bad _ _ _ _ _ _ _ h
theorem enc_fffd : enc 65533 = [239, 191, 189] := by decide
theorem it_len (f : Nat → Int) (n a : Nat) (hf : ∀ i, 0 ≤ f i ∧ f i ≤ 255) : len (it f n a).1 ≠ 0 := by
  cases h : (it f n a).2.2 with
  | true => exact (it_good f n a hf h).1
  | false => rw [it_bad f n a h]; decide
/-- Where the replacement's own bytes stand, the item is well-formed. -/
theorem it_fffd (f : Nat → Int) (n a : Nat) (h0 : f a = 239) (h1 : f (a + 1) = 191) (h2 : f (a + 2) = 189) (hn : a + 2 < n) : (it f n a).2.2 = true := by
  have s : sz (f a) = 3 := by rw [h0]; decide
  rw [it_3 f n a s ⟨by omega, by rw [h0, h1]; decide, by rw [h0, h1]; decide⟩ ⟨by omega, by omega, by omega⟩]

/-- The bytes of items, written anew. -/
def encs (l : List (Int × Nat × Nat)) : List Int := l.flatMap fun x => enc x.1
theorem encs_cons (x : Int × Nat × Nat) (l : List (Int × Nat × Nat)) : encs (x :: l) = enc x.1 ++ encs l := by simp [encs]

theorem again (f : Nat → Int) (n : Nat) (hf : ∀ i, 0 ≤ f i ∧ f i ≤ 255) : ∀ m a, n - a = m → a ≤ n → (encs (items f n a) = seg f a (n - a) ↔ valid f n a = true) := by
  intro m
  induction m using Nat.strongRecOn with
  | ind m ih =>
    intro a hm han
    rcases Nat.lt_or_ge a n with h | h
    · have e := it_end f n a h
      rw [items_step f n a h, encs_cons, valid_step f n a h]
      have ih' := ih (n - (it f n a).2.1) (by omega) (it f n a).2.1 rfl (by omega)
      have hs : seg f a (n - a) = seg f a ((it f n a).2.1 - a) ++ seg f (it f n a).2.1 (n - (it f n a).2.1) := by
        have := seg_split f a ((it f n a).2.1 - a) (n - (it f n a).2.1)
        rw [show (it f n a).2.1 - a + (n - (it f n a).2.1) = n - a from by omega, show a + ((it f n a).2.1 - a) = (it f n a).2.1 from by omega] at this
        exact this
      cases hk : (it f n a).2.2 with
      | true =>
        rw [hs, (it_good f n a hf hk).2, List.append_cancel_left_eq, ih']
        simp
      | false =>
        rw [it_bad f n a hk, enc_fffd]
        simp only [Bool.false_and, Bool.false_eq_true, iff_false]
        intro hh
        have l3 : 3 ≤ n - a := by
          have := congrArg List.length hh
          simp [seg] at this
          omega
        rw [show n - a = 3 + (n - a - 3) from by omega, seg_split, seg_3] at hh
        simp at hh
        have := it_fffd f n a hh.1.symm hh.2.1.symm hh.2.2.1.symm (by omega)
        rw [this] at hk
        exact absurd hk (by simp)
    · obtain rfl : a = n := by omega
      rw [items_end f a a (Nat.le_refl _), valid_end f a a (Nat.le_refl _)]
      simp [encs, seg]
end Go.Proofs.YtbdediacfckpcaaGreatDoor.utf
end

section
/- Plain mathematics: the items of two texts, one behind the other, are those of both, if the first one is well-formed. -/
set_option linter.unusedVariables false
set_option linter.unusedSimpArgs false
namespace Go.Proofs.YtbdediacfckpcaaGreatDoor.utf

theorem run_ext (f g : Nat → Int) (n N : Nat) (hN : n ≤ N) (h : ∀ i, i < n → g i = f i) : ∀ k r e l u, (run f n k r e l u).2.2 = true → run g N k r e l u = run f n k r e l u := by
  intro k
  induction k with
  | zero => intro r e l u _; simp [run]
  | succ k ih =>
    intro r e l u hk
    by_cases c : e < n ∧ l ≤ f e ∧ f e ≤ u
    · have hg := h e c.1
      rw [run_go f n (k + 1) r e l u (by omega) c] at hk ⊢
      rw [run_go g N (k + 1) r e l u (by omega) (by rw [hg]; omega), hg]
      exact ih _ _ _ _ hk
    · rw [run_stop f n (k + 1) r e l u (by omega) c] at hk
      simp at hk
theorem it_ext (f g : Nat → Int) (n N a : Nat) (hN : n ≤ N) (ha : a < n) (h : ∀ i, i < n → g i = f i) (hk : (it f n a).2.2 = true) : it g N a = it f n a := by
  unfold it at hk ⊢
  rw [h a ha]
  split
  · rfl
  · rename_i hs
    rw [if_neg hs] at hk
    exact run_ext f g n N hN h _ _ _ _ _ hk

theorem items_ext (f g : Nat → Int) (n N : Nat) (hN : n ≤ N) (h : ∀ i, i < n → g i = f i) : ∀ m a, n - a = m → a ≤ n → valid f n a = true → items g N a = items f n a ++ items g N n := by
  intro m
  induction m using Nat.strongRecOn with
  | ind m ih =>
    intro a hm han hv
    rcases Nat.lt_or_ge a n with ha | ha
    · have e := it_end f n a ha
      rw [valid_step f n a ha, Bool.and_eq_true] at hv
      have hi := it_ext f g n N a hN ha h hv.1
      rw [items_step g N a (by omega), items_step f n a ha, hi]
      rw [ih (n - (it f n a).2.1) (by omega) _ rfl (by omega) hv.2]
      rfl
    · obtain rfl : a = n := by omega
      rw [items_end f a a (Nat.le_refl _)]
      rfl

/-- Items, so many bytes further on. -/
def shift (d : Nat) (l : List (Int × Nat × Nat)) : List (Int × Nat × Nat) := l.map fun x => (x.1, d + x.2.1, d + x.2.2)
theorem items_shift (f : Nat → Int) (n d : Nat) : ∀ m a, n - a = m → items f (d + n) (d + a) = shift d (items (fun i => f (d + i)) n a) := by
  intro m
  induction m using Nat.strongRecOn with
  | ind m ih =>
    intro a hm
    rcases Nat.lt_or_ge a n with ha | ha
    · have e := it_end f (d + n) (d + a) (by omega)
      have hs := it_shift f n d a
      rw [items_step f (d + n) (d + a) (by omega), items_step (fun i => f (d + i)) n a ha]
      have e1 : (it (fun i => f (d + i)) n a).1 = (it f (d + n) (d + a)).1 := by rw [hs]
      have e2 : d + (it (fun i => f (d + i)) n a).2.1 = (it f (d + n) (d + a)).2.1 := by rw [hs]; simp only []; omega
      have := ih (n - (it (fun i => f (d + i)) n a).2.1) (by omega) (it (fun i => f (d + i)) n a).2.1 rfl
      rw [e2] at this
      rw [this]
      simp only [shift, List.map_cons, e1, e2]
    · rw [items_end _ _ _ (by omega), items_end _ _ _ ha]
      rfl

/-- The bytes of two texts, one behind the other. -/
def both (fa fb : Nat → Int) (na : Nat) : Nat → Int := fun i => if i < na then fa i else fb (i - na)
theorem items_both (fa fb : Nat → Int) (na nb : Nat) (hv : valid fa na 0 = true) : items (both fa fb na) (na + nb) 0 = items fa na 0 ++ shift na (items fb nb 0) := by
  rw [items_ext fa (both fa fb na) na (na + nb) (by omega) (fun i hi => by simp [both, hi]) (na - 0) 0 rfl (Nat.zero_le _) hv]
  have := items_shift (both fa fb na) nb na (nb - 0) 0 rfl
  rw [Nat.add_zero] at this
  rw [this]
  rw [show (fun i => both fa fb na (na + i)) = fb from funext fun i => by unfold both; rw [if_neg (by omega), Nat.add_sub_cancel_left]]
theorem shift_take (d : Nat) (l : List (Int × Nat × Nat)) (k : Nat) (hk : k < l.length) : shift d (l.take (k + 1)) = shift d (l.take k) ++ [((l.getD k (0, 0, 0)).1, d + (l.getD k (0, 0, 0)).2.1, d + (l.getD k (0, 0, 0)).2.2)] := by
  rw [List.getD_eq_getElem?_getD, List.getElem?_eq_getElem hk]
  unfold shift
  rw [List.take_succ_eq_append_getElem hk, List.map_append]
  rfl
theorem items_bound (f : Nat → Int) (n : Nat) : ∀ m a, n - a = m → ∀ x ∈ items f n a, x.2.1 ≤ n ∧ x.2.2 ≤ n := by
  intro m
  induction m using Nat.strongRecOn with
  | ind m ih =>
    intro a hm x hx
    rcases Nat.lt_or_ge a n with ha | ha
    · have e := it_end f n a ha
      rw [items_step f n a ha] at hx
      rcases List.mem_cons.1 hx with rfl | h
      · simp only []; omega
      · exact ih (n - (it f n a).2.1) (by omega) _ rfl x h
    · rw [items_end f n a ha] at hx; simp at hx
theorem items_getD_bound (f : Nat → Int) (n k : Nat) : ((items f n 0).getD k (0, 0, 0)).2.1 ≤ n ∧ ((items f n 0).getD k (0, 0, 0)).2.2 ≤ n := by
  rcases Nat.lt_or_ge k (items f n 0).length with h | h
  · rw [List.getD_eq_getElem?_getD, List.getElem?_eq_getElem h]
    exact items_bound f n (n - 0) 0 rfl _ (List.getElem_mem h)
  · rw [List.getD_eq_getElem?_getD, List.getElem?_eq_none h]
    simp
end Go.Proofs.YtbdediacfckpcaaGreatDoor.utf
end
