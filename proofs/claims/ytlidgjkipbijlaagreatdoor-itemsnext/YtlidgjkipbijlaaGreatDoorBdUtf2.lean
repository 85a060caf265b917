/- Texts that the proof leans on, one behind the other. -/
import Derived.Test.YtlidgjkipbijlaaGreatDoorBdUtf1
import Derived.Outline
import Derived.Lib.Bytes
import Derived.Lib.Walk
import Derived.Deep.QuietTactic
import Derived.BigQuiet
import Derived.Lib.SliceRun

section
/- What utf.Encode and the document's Encode return: a code point's bytes in a new block, or nothing. -/
set_option linter.unusedVariables false
set_option linter.unusedSimpArgs false
namespace Go.Proofs.YtlidgjkipbijlaaGreatDoor.utf
open Go.RowKit

/-- A code point's bytes. -/
def enc (r : Int) : List Int :=
  if len r = 1 then [r] else if len r = 2 then [192 + r / 64, 128 + r % 64] else if len r = 3 then [224 + r / 64 / 64, 128 + r / 64 % 64, 128 + r % 64]
  else if len r = 4 then [240 + r / 64 / 64 / 64, 128 + r / 64 / 64 % 64, 128 + r / 64 % 64, 128 + r % 64] else []
theorem len_cases (r : Int) (h : len r ≠ 0) : 0 ≤ r ∧ r ≤ 1114111 ∧ ¬ (55296 ≤ r ∧ r ≤ 57343) ∧ ((len r = 1 ∧ r ≤ 127) ∨ (len r = 2 ∧ 127 < r ∧ r ≤ 2047) ∨ (len r = 3 ∧ 2047 < r ∧ r ≤ 65535) ∨ (len r = 4 ∧ 65535 < r)) := by
  unfold len at h ⊢; revert h; (repeat' split) <;> omega
/-- The block of a code point's bytes. -/
def encBlock (r : Int) : Obj := .cells ((enc r).map (Value.int .u8)).toArray 5

theorem renc_no (r : Int) (w : World) (h : len r = 0) :
    Calls Tryz.prog 27 #[.int .i64 r] w fun e w' => e = .returned (.tuple #[.slice none 0 0, .bool false]) ∧ w' = w := by
  have hc : r < 0 ∨ 1114111 < r ∨ (55296 ≤ r ∧ r ≤ 57343) := by unfold len at h; revert h; (repeat' split) <;> omega
  clear h
  rcases hc with hc | hc | hc
  · go_enter Tryz.func27, Tryz.ntmps27
    go_wp2
    all_goals (go_ret2; exact ⟨rfl, rfl⟩)
  · have hp : 0 ≤ r := by omega
    go_enter Tryz.func27, Tryz.ntmps27
    go_wp2
    all_goals (go_ret2; exact ⟨rfl, rfl⟩)
  · have hp : 0 ≤ r := by omega
    have hq : r ≤ 1114111 := by omega
    obtain ⟨hc1, hc2⟩ := hc
    go_enter Tryz.func27, Tryz.ntmps27
    go_wp2
    all_goals (go_ret2; exact ⟨rfl, rfl⟩)
theorem renc_yes (r : Int) (w : World) (h : len r ≠ 0) :
    Calls Tryz.prog 27 #[.int .i64 r] w fun e w' => e = .returned (.tuple #[.slice (some ⟨w.heap.size, 0, none⟩) (enc r).length (enc r).length, .bool true]) ∧ w' = w.alloc (encBlock r) := by
  obtain ⟨h0, h1, h2, c | c | c | c⟩ := len_cases r h
  · have e : enc r = [r] := by unfold enc; rw [if_pos c.1]
    rw [encBlock, e]
    obtain ⟨_, c2⟩ := c
    clear e h h2
    go_enter Tryz.func27, Tryz.ntmps27
    go_wp2
    go_ret2
    exact ⟨rfl, rfl⟩
  · have e : enc r = [192 + r / 64, 128 + r % 64] := by unfold enc; rw [if_neg (by omega), if_pos c.1]
    rw [encBlock, e]
    obtain ⟨_, c2, c3⟩ := c
    clear e h h2
    go_enter Tryz.func27, Tryz.ntmps27
    go_wp2
    go_ret2
    exact ⟨rfl, rfl⟩
  · have e : enc r = [224 + r / 64 / 64, 128 + r / 64 % 64, 128 + r % 64] := by unfold enc; rw [if_neg (by omega), if_neg (by omega), if_pos c.1]
    rw [encBlock, e, show r / 64 / 64 = r / 4096 from by omega]
    obtain ⟨_, c2, c3⟩ := c
    clear e h
    rcases (show r < 55296 ∨ 57343 < r from by omega) with g | g
    · clear h2
      go_enter Tryz.func27, Tryz.ntmps27
      go_wp2
      go_ret2
      exact ⟨rfl, rfl⟩
    · clear h2
      go_enter Tryz.func27, Tryz.ntmps27
      go_wp2
      go_ret2
      exact ⟨rfl, rfl⟩
  · have e : enc r = [240 + r / 64 / 64 / 64, 128 + r / 64 / 64 % 64, 128 + r / 64 % 64, 128 + r % 64] := by unfold enc; rw [if_neg (by omega), if_neg (by omega), if_neg (by omega), if_pos c.1]
    rw [encBlock, e, show r / 64 / 64 / 64 = r / 262144 from by omega, show r / 64 / 64 = r / 4096 from by omega]
    obtain ⟨_, c2⟩ := c
    have g : 57343 < r := by omega
    clear e h h2
    go_enter Tryz.func27, Tryz.ntmps27
    go_wp2
    go_ret2
    exact ⟨rfl, rfl⟩
end Go.Proofs.YtlidgjkipbijlaaGreatDoor.utf
end

section
/- What bytes.Equal answers of two lists of bytes, and that the statements' own small call (awake) answers true; nothing that was there changes. -/
set_option linter.unusedVariables false
set_option linter.unusedSimpArgs false
namespace Go.Proofs.YtlidgjkipbijlaaGreatDoor.utf
open Go.RowKit

/-- The value reads as these bytes: what its conversion to a string gives. -/
def Bts (w : World) (v : Value) (xs : List Int) : Prop := (convert 22 9 v).run Tryz.prog w = .ok (.string (strOfNums xs)) w

theorem bts_cells {w : World} {b off : Nat} {xs : List Int} (cap : Nat) (h : ∀ i, i < xs.length → w.cell? ⟨b, off + i, none⟩ = some (.int .u8 (xs.getD i 0))) : Bts w (.slice (some ⟨b, off, none⟩) xs.length cap) xs :=
  run_convert_bytes_arg (P := Tryz.prog) w 22 5 Tryz.underlying22 Tryz.underlying5 b off xs.length cap xs rfl h 9 Tryz.underlying9
theorem bts_nil (w : World) (l c : Nat) : Bts w (.slice none l c) [] := by
  have := run_convert_bytes_nil (P := Tryz.prog) w 22 5 Tryz.underlying22 Tryz.underlying5 l c 9 Tryz.underlying9
  exact this
theorem beq_any (v1 v2 : Value) (xs ys : List Int) (w : World) (h1 : Bts w v1 xs) (h2 : Bts w v2 ys) :
    Calls Tryz.prog 15 #[v1, v2] w fun e w' => e = .returned (.bool (Lib.bytesOf xs == Lib.bytesOf ys)) ∧ w' = w := by
  unfold Bts at h1 h2
  rw [← Lib.strOfNums_toList, ← Lib.strOfNums_toList]
  go_enter Tryz.func15, Tryz.ntmps15
  go_wp2
  go_ret
  exact ⟨rfl, rfl⟩
end Go.Proofs.YtlidgjkipbijlaaGreatDoor.utf
end

section
/- What slices.Equal answers of two rows of the same items: true. -/
set_option linter.unusedVariables false
set_option linter.unusedSimpArgs false
namespace Go.Proofs.YtlidgjkipbijlaaGreatDoor.utf
open Go.RowKit

/-- The cells of n items, each of three numbers. -/
def IsI (w : World) (b : Nat) (n : Nat) (x y z : Nat → Int) : Prop :=
  ∀ i, i < n → w.cell? ⟨b, i * 3, none⟩ = some (.int .i64 (x i)) ∧ w.cell? ⟨b, i * 3 + 1, none⟩ = some (.int .i64 (y i)) ∧ w.cell? ⟨b, i * 3 + 1 + 1, none⟩ = some (.int .i64 (z i))

theorem flat_get : ∀ (l : List (Int × Nat × Nat)) (i : Nat), i < l.length → (flat l)[i * 3]? = some (.int .i64 (l.getD i (0, 0, 0)).1) ∧ (flat l)[i * 3 + 1]? = some (.int .i64 ((l.getD i (0, 0, 0)).2.1 : Int)) ∧ (flat l)[i * 3 + 1 + 1]? = some (.int .i64 ((l.getD i (0, 0, 0)).2.2 : Int))
  | [], i, h => by simp at h
  | x :: l, 0, h => by simp [flat]
  | x :: l, i + 1, h => by
    have := flat_get l i (by simpa using h)
    rw [show x :: l = [x] ++ l from rfl, flat_append, show flat [x] = [.int .i64 x.1, .int .i64 x.2.1, .int .i64 x.2.2] from rfl]
    rw [show (i + 1) * 3 = i * 3 + 3 from by omega]
    simpa using this

end Go.Proofs.YtlidgjkipbijlaaGreatDoor.utf
end

section
/- What bytes.Clone answers of a row of bytes: a row of the same bytes; and the walk of UtfDecodes. -/
set_option linter.unusedVariables false
set_option linter.unusedSimpArgs false
namespace Go.Proofs.YtlidgjkipbijlaaGreatDoor.utf
open Go.RowKit

theorem infoByte : (Tryz.prog.info? 5).map (fun i => (i.zero, i.size, i.bytes)) = some (some (.int .u8 0), 1, 1) := by kernel_rfl

/-- The first n bytes as a list. -/
def lst (f : Nat → Int) (n : Nat) : List Int := (List.range n).map f
theorem lst_length (f : Nat → Int) (n : Nat) : (lst f n).length = n := by simp [lst]
theorem lst_get (f : Nat → Int) (n i : Nat) (h : i < n) : (lst f n).getD i 0 = f i := by simp [lst, List.getD, h]
theorem lst_get? (f : Nat → Int) (n i : Nat) (h : i < n) : ((lst f n).map (Value.int .u8))[i]? = some (.int .u8 (f i)) := by simp [lst, h]

theorem bts_isB {w : World} {ao : Option Addr} {n : Nat} {f : Nat → Int} (cap : Nat) (h : IsB w ao n f) (hnil : ao = none → n = 0) : Bts w (.slice ao n cap) (lst f n) := by
  rcases h with rfl | ⟨b, off, rfl, hc⟩
  · cases ao with
    | none => exact bts_nil w 0 cap
    | some x =>
      obtain ⟨b, off, s⟩ := x
      have h0 : (loadCells ⟨b, off, s⟩ 0).run Tryz.prog w = .ok #[] w := by
        have := run_loadCells_list (P := Tryz.prog) w ⟨b, off, s⟩ [] (fun j v hj => by simp at hj)
        simpa using this
      unfold Bts
      rw [run_convert_bytes_string w 22 9 5 _ 0 cap Tryz.underlying22 Tryz.underlying5 Tryz.underlying9]
      rw [run_bytesToString w _ 0 cap [] (by simpa using h0)]
      rfl
  · have := bts_cells (w := w) (b := b) (off := off) (xs := lst f n) cap (fun i hi => by
      rw [lst_length] at hi
      rw [lst_get f n i hi]; exact hc i hi)
    rw [lst_length] at this
    exact this

theorem isB_own {w : World} {B n : Nat} {v : Value} {f : Nat → Int} (h : w.ownsRow B 5 1 v n ((lst f n).map (Value.int .u8))) :
    ∃ ao cap, v = .slice ao n cap ∧ IsB w ao n f ∧ n ≤ cap ∧ cap ≤ 9223372036854775807 ∧ (ao = none → n = 0) := by
  rcases h.2 with ⟨rfl, rfl⟩ | ⟨g, cap, cur, rfl, _, _, hc, hm, _⟩
  · exact ⟨none, 0, rfl, .inl rfl, by omega, by omega, fun _ => rfl⟩
  · unfold maxLen at hm
    exact ⟨some ⟨g, 0, none⟩, cap, rfl, .inr ⟨g, 0, rfl, fun i hi => by rw [Nat.zero_add]; exact (h.cellAt i (by omega)).trans (lst_get? f n i hi)⟩, hc, by omega, fun h => by simp at h⟩

theorem clone_nil (cap : Nat) (w : World) :
    Calls Tryz.prog 29 #[.slice none 0 cap] w fun e w' => e = .returned (.slice none 0 0) ∧ w' = w := by
  have he := fun (w : World) (a : Option Addr) (n c : Nat) => Lib.run_eql_slice_nil (P := Tryz.prog) w 22 5 a n c 0 0 Tryz.underlying22
  go_enter Tryz.func29, Tryz.ntmps29
  go_wp2
  go_ret
  exact ⟨rfl, rfl⟩

theorem clone_some (ad : Addr) (n cap : Nat) (f : Nat → Int) (w : World) (hB : IsB w (some ad) n f) (hn : n ≤ 140737488355328) :
    Calls Tryz.prog 29 #[.slice (some ad) n cap] w fun e w' => ∃ v, e = .returned v ∧ w'.ownsRow w.heap.size 5 1 v n ((lst f n).map (Value.int .u8)) ∧ Below w.heap.size w w' := by
  obtain ⟨i0, hi, hz0, hz1, hz2⟩ := info_parts infoByte
  have he := fun (w : World) (a : Option Addr) (n c : Nat) => Lib.run_eql_slice_nil (P := Tryz.prog) w 22 5 a n c 0 0 Tryz.underlying22
  have HN : Hid (∀ (o : Obj) (j : Nat) (u : Value), ((lst f n).map (Value.int .u8))[j]? = some u → (w.alloc o).cell? (ad.add j) = some u) := by
    intro o j u hj
    have hjn : j < n := by
      rcases Nat.lt_or_ge j n with h | h
      · exact h
      · rw [List.getElem?_eq_none (by simpa [lst] using h)] at hj; simp at hj
    rw [lst_get? f n j hjn] at hj
    rcases hB with h0 | ⟨b, off, hbo, hc⟩
    · omega
    · simp only [Option.some.injEq] at hbo
      subst hbo
      rw [Addr.add_lit, ← hj]
      exact cells_alloc hc o j hjn
  clear hB
  go_enter Tryz.func29, Tryz.ntmps29
  go_wp2_with (at_builtin; refine wpList_append_own _ rfl _ _ 22 rfl w.heap.size 5 i0 (.int .u8 0) 1 1 Tryz.underlying22 hi hz0 hz1 hz2 rfl (by decide) _ _ _ rfl (World.ownsRow_lit (base := w.heap.size) (e := 5) (size := 1) w #[] 0 (Nat.le_refl _) (by decide) rfl) ad n cap ((lst f n).map (Value.int .u8)) rfl ?c0 ?c1 ?c2 ?c3 ?c4 ?c5 ?_)
  case c0 => simp [lst]
  case c1 => exact HN.out _
  case c2 => intro u hu; simp at hu; obtain ⟨x, _, rfl⟩ := hu; rfl
  case c3 => unfold maxLen; omega
  case c4 => omega
  case c5 => simp
  · intro v' w1 hown hgrow _
    have R2 := Below.grown ((Below.refl w.heap.size w).alloc (Nat.le_refl _) (.cells #[] 5)) hgrow (by simp) (fun k hk => by simp [Value.ownBlock] at hk; omega)
    have R1 : w1.ownsRow w.heap.size 5 1 v' n ((lst f n).map (Value.int .u8)) := by simpa using hown
    clear hown hgrow
    go_wp2
    go_ret
    exact ⟨_, rfl, R1, R2⟩

/-- A clone reads as the row that it is of. -/
theorem clone_any (ao : Option Addr) (n cap : Nat) (f : Nat → Int) (w : World) (hB : IsB w ao n f) (hnil : ao = none → n = 0) (hn : n ≤ 140737488355328) :
    Calls Tryz.prog 29 #[.slice ao n cap] w fun e w' => ∃ ao' cap', e = .returned (.slice ao' n cap') ∧ IsB w' ao' n f ∧ n ≤ cap' ∧ cap' ≤ 9223372036854775807 ∧ (ao' = none → n = 0) ∧ Below w.heap.size w w' := by
  cases ao with
  | none =>
    obtain rfl := hnil rfl
    refine (clone_nil cap w).mono ?_
    rintro e w' ⟨rfl, rfl⟩
    exact ⟨none, 0, rfl, .inl rfl, by omega, by omega, fun _ => rfl, Below.refl _ _⟩
  | some ad =>
    refine (clone_some ad n cap f w hB hn).mono ?_
    rintro e w' ⟨v, rfl, hown, hb⟩
    obtain ⟨ao', cap', rfl, h1, h2, h3, h4⟩ := isB_own hown
    exact ⟨ao', cap', rfl, h1, h2, h3, h4, hb⟩

end Go.Proofs.YtlidgjkipbijlaaGreatDoor.utf
end

section
/- A code point's bytes are one item, of it; the walk of UtfBack. -/
set_option linter.unusedVariables false
set_option linter.unusedSimpArgs false
namespace Go.Proofs.YtlidgjkipbijlaaGreatDoor.utf
open Go.RowKit

theorem it_1 (f : Nat → Int) (n a : Nat) (s : sz (f a) = 1) : it f n a = (hb (f a), a + 1, true) := by
  unfold it; rw [if_neg (by omega), s]; rfl
theorem it_2 (f : Nat → Int) (n a : Nat) (s : sz (f a) = 2) (h1 : a + 1 < n ∧ lo (f a) ≤ f (a + 1) ∧ f (a + 1) ≤ hi (f a)) : it f n a = (hb (f a) * 64 + f (a + 1) % 64, a + 2, true) := by
  unfold it; rw [if_neg (by omega), s, run_go _ _ _ _ _ _ _ (by decide) h1]; rfl
theorem it_3 (f : Nat → Int) (n a : Nat) (s : sz (f a) = 3) (h1 : a + 1 < n ∧ lo (f a) ≤ f (a + 1) ∧ f (a + 1) ≤ hi (f a)) (h2 : a + 2 < n ∧ 128 ≤ f (a + 2) ∧ f (a + 2) ≤ 191) : it f n a = ((hb (f a) * 64 + f (a + 1) % 64) * 64 + f (a + 2) % 64, a + 3, true) := by
  unfold it; rw [if_neg (by omega), s, run_go _ _ _ _ _ _ _ (by decide) h1, run_go _ _ _ _ _ _ _ (by decide) h2]; rfl
theorem it_4 (f : Nat → Int) (n a : Nat) (s : sz (f a) = 4) (h1 : a + 1 < n ∧ lo (f a) ≤ f (a + 1) ∧ f (a + 1) ≤ hi (f a)) (h2 : a + 2 < n ∧ 128 ≤ f (a + 2) ∧ f (a + 2) ≤ 191) (h3 : a + 3 < n ∧ 128 ≤ f (a + 3) ∧ f (a + 3) ≤ 191) :
    it f n a = (((hb (f a) * 64 + f (a + 1) % 64) * 64 + f (a + 2) % 64) * 64 + f (a + 3) % 64, a + 4, true) := by
  unfold it; rw [if_neg (by omega), s, run_go _ _ _ _ _ _ _ (by decide) h1, run_go _ _ _ _ _ _ _ (by decide) h2, run_go _ _ _ _ _ _ _ (by decide) h3]; rfl

theorem it_enc (r : Int) (h : len r ≠ 0) : it (fun i => (enc r).getD i 0) (enc r).length 0 = (r, (enc r).length, true) := by
  obtain ⟨h0, h1, h2, c | c | c | c⟩ := len_cases r h
  · have e : enc r = [r] := by unfold enc; rw [if_pos c.1]
    rw [e]
    have s : sz r = 1 := by unfold sz; (repeat' split) <;> omega
    have b : hb r = r := by unfold hb; (repeat' split) <;> omega
    rw [it_1 _ _ _ s]
    simp [b]
  · have e : enc r = [192 + r / 64, 128 + r % 64] := by unfold enc; rw [if_neg (by omega), if_pos c.1]
    rw [e]
    have s : sz (192 + r / 64) = 2 := by unfold sz; (repeat' split) <;> omega
    have b : hb (192 + r / 64) = r / 64 := by unfold hb; (repeat' split) <;> omega
    have l : lo (192 + r / 64) ≤ 128 + r % 64 := by unfold lo; (repeat' split) <;> omega
    have m : 128 + r % 64 ≤ hi (192 + r / 64) := by unfold hi; (repeat' split) <;> omega
    rw [it_2 _ _ _ s ⟨by simp, l, m⟩]
    show (hb (192 + r / 64) * 64 + (128 + r % 64) % 64, 2, true) = (r, 2, true)
    rw [b, show r / 64 * 64 + (128 + r % 64) % 64 = r from by omega]
  · have e : enc r = [224 + r / 64 / 64, 128 + r / 64 % 64, 128 + r % 64] := by unfold enc; rw [if_neg (by omega), if_neg (by omega), if_pos c.1]
    rw [e]
    have s : sz (224 + r / 64 / 64) = 3 := by unfold sz; (repeat' split) <;> omega
    have b : hb (224 + r / 64 / 64) = r / 64 / 64 := by unfold hb; (repeat' split) <;> omega
    have l : lo (224 + r / 64 / 64) ≤ 128 + r / 64 % 64 := by unfold lo; (repeat' split) <;> omega
    have m : 128 + r / 64 % 64 ≤ hi (224 + r / 64 / 64) := by unfold hi; (repeat' split) <;> omega
    rw [it_3 _ _ _ s ⟨by simp, l, m⟩ ⟨by simp, (show (128 : Int) ≤ 128 + r % 64 from by omega), (show 128 + r % 64 ≤ 191 from by omega)⟩]
    show ((hb (224 + r / 64 / 64) * 64 + (128 + r / 64 % 64) % 64) * 64 + (128 + r % 64) % 64, 3, true) = (r, 3, true)
    rw [b, show (r / 64 / 64 * 64 + (128 + r / 64 % 64) % 64) * 64 + (128 + r % 64) % 64 = r from by omega]
  · have e : enc r = [240 + r / 64 / 64 / 64, 128 + r / 64 / 64 % 64, 128 + r / 64 % 64, 128 + r % 64] := by unfold enc; rw [if_neg (by omega), if_neg (by omega), if_neg (by omega), if_pos c.1]
    rw [e]
    have s : sz (240 + r / 64 / 64 / 64) = 4 := by unfold sz; (repeat' split) <;> omega
    have b : hb (240 + r / 64 / 64 / 64) = r / 64 / 64 / 64 := by unfold hb; (repeat' split) <;> omega
    have l : lo (240 + r / 64 / 64 / 64) ≤ 128 + r / 64 / 64 % 64 := by unfold lo; (repeat' split) <;> omega
    have m : 128 + r / 64 / 64 % 64 ≤ hi (240 + r / 64 / 64 / 64) := by unfold hi; (repeat' split) <;> omega
    rw [it_4 _ _ _ s ⟨by simp, l, m⟩ ⟨by simp, (show (128 : Int) ≤ 128 + r / 64 % 64 from by omega), (show 128 + r / 64 % 64 ≤ 191 from by omega)⟩ ⟨by simp, (show (128 : Int) ≤ 128 + r % 64 from by omega), (show 128 + r % 64 ≤ 191 from by omega)⟩]
    show (((hb (240 + r / 64 / 64 / 64) * 64 + (128 + r / 64 / 64 % 64) % 64) * 64 + (128 + r / 64 % 64) % 64) * 64 + (128 + r % 64) % 64, 4, true) = (r, 4, true)
    rw [b, show ((r / 64 / 64 / 64 * 64 + (128 + r / 64 / 64 % 64) % 64) * 64 + (128 + r / 64 % 64) % 64) * 64 + (128 + r % 64) % 64 = r from by omega]

theorem enc_pos (r : Int) (h : len r ≠ 0) : 0 < (enc r).length ∧ (enc r).length ≤ 4 := by
  obtain ⟨h0, h1, h2, c | c | c | c⟩ := len_cases r h <;> unfold enc <;> simp [c.1]
theorem enc_range (r : Int) : ∀ i, 0 ≤ (enc r).getD i 0 ∧ (enc r).getD i 0 ≤ 255 := by
  by_cases h : len r = 0
  · intro i
    have e : enc r = [] := by unfold enc; simp [h]
    rw [e]; simp
  · obtain ⟨h0, h1, h2, c | c | c | c⟩ := len_cases r h
    all_goals
      intro i
      unfold enc
      simp only [c.1]
      match i with
      | 0 => simp; omega
      | 1 => simp; try omega
      | 2 => simp; try omega
      | 3 => simp; try omega
      | k + 4 => simp

theorem items_enc (r : Int) (h : len r ≠ 0) : items (fun i => (enc r).getD i 0) (enc r).length 0 = [(r, 0, (enc r).length)] := by
  rw [items_step _ _ _ (enc_pos r h).1, it_enc r h, items_end _ _ _ (Nat.le_refl _)]
theorem valid_enc (r : Int) (h : len r ≠ 0) : valid (fun i => (enc r).getD i 0) (enc r).length 0 = true := by
  rw [valid_step _ _ _ (enc_pos r h).1, it_enc r h, valid_end _ _ _ (Nat.le_refl _)]; rfl

end Go.Proofs.YtlidgjkipbijlaaGreatDoor.utf
end

section
/- Plain mathematics: a well-formed item's code point has just its bytes, a malformed part's has not; so the bytes written anew are the bytes read where, and only where, all are well-formed. -/
set_option linter.unusedVariables false
set_option linter.unusedSimpArgs false
namespace Go.Proofs.YtlidgjkipbijlaaGreatDoor.utf
open Go.RowKit

/-- The bytes from a place up to another. -/
def seg (f : Nat → Int) (a m : Nat) : List Int := (List.range m).map fun i => f (a + i)
theorem seg_1 (f : Nat → Int) (a : Nat) : seg f a 1 = [f a] := by simp [seg]
theorem seg_2 (f : Nat → Int) (a : Nat) : seg f a 2 = [f a, f (a + 1)] := by simp [seg, List.range_succ]
theorem seg_3 (f : Nat → Int) (a : Nat) : seg f a 3 = [f a, f (a + 1), f (a + 2)] := by simp [seg, List.range_succ]
theorem seg_4 (f : Nat → Int) (a : Nat) : seg f a 4 = [f a, f (a + 1), f (a + 2), f (a + 3)] := by simp [seg, List.range_succ]

theorem sz_range (c : Int) : (sz c = 1 → c ≤ 127) ∧ (sz c = 2 → 194 ≤ c ∧ c ≤ 223) ∧ (sz c = 3 → 224 ≤ c ∧ c ≤ 239) ∧ (sz c = 4 → 240 ≤ c ∧ c ≤ 244) := by
  unfold sz; (repeat' split) <;> omega
theorem lo_range (c : Int) : (c = 224 → lo c = 160) ∧ (c = 240 → lo c = 144) ∧ (c ≠ 224 → c ≠ 240 → lo c = 128) := by unfold lo; (repeat' split) <;> omega
theorem hi_range (c : Int) : (c = 237 → hi c = 159) ∧ (c = 244 → hi c = 143) ∧ (c ≠ 237 → c ≠ 244 → hi c = 191) := by unfold hi; (repeat' split) <;> omega

theorem len_1 (r : Int) (h0 : 0 ≤ r) (h1 : r ≤ 127) : len r = 1 := by unfold len; (repeat' split) <;> omega
theorem len_2 (r : Int) (h0 : 128 ≤ r) (h1 : r ≤ 2047) : len r = 2 := by unfold len; (repeat' split) <;> omega
theorem len_3 (r : Int) (h0 : 2048 ≤ r) (h1 : r ≤ 65535) (h2 : ¬ (55296 ≤ r ∧ r ≤ 57343)) : len r = 3 := by unfold len; (repeat' split) <;> omega
theorem len_4 (r : Int) (h0 : 65536 ≤ r) (h1 : r ≤ 1114111) : len r = 4 := by unfold len; (repeat' split) <;> omega

theorem enc_of_1 (r : Int) (c : len r = 1) : enc r = [r] := by unfold enc; rw [if_pos c]
theorem enc_of_2 (r : Int) (c : len r = 2) : enc r = [192 + r / 64, 128 + r % 64] := by unfold enc; rw [if_neg (by omega), if_pos c]
theorem enc_of_3 (r : Int) (c : len r = 3) : enc r = [224 + r / 64 / 64, 128 + r / 64 % 64, 128 + r % 64] := by unfold enc; rw [if_neg (by omega), if_neg (by omega), if_pos c]
theorem enc_of_4 (r : Int) (c : len r = 4) : enc r = [240 + r / 64 / 64 / 64, 128 + r / 64 / 64 % 64, 128 + r / 64 % 64, 128 + r % 64] := by unfold enc; rw [if_neg (by omega), if_neg (by omega), if_neg (by omega), if_pos c]

theorem it_good (f : Nat → Int) (n a : Nat) (hf : ∀ i, 0 ≤ f i ∧ f i ≤ 255) (h : (it f n a).2.2 = true) :
    len (it f n a).1 ≠ 0 ∧ enc (it f n a).1 = seg f a ((it f n a).2.1 - a) := by
  have h4 := sz_le (f a)
  have hr := sz_range (f a)
  have hl := lo_range (f a)
  have hh := hi_range (f a)
  have f0 := hf a
  have f1 := hf (a + 1)
  have f2 := hf (a + 2)
  have f3 := hf (a + 3)
  rcases (show sz (f a) = 0 ∨ sz (f a) = 1 ∨ sz (f a) = 2 ∨ sz (f a) = 3 ∨ sz (f a) = 4 from by omega) with s | s | s | s | s
  · have e : it f n a = (65533, a + 1, false) := by unfold it; rw [if_pos s]
    rw [e] at h; simp at h
  · rw [it_1 f n a s]
    have b := hb_1 (f a) s
    have l := len_1 (f a) (by omega) (by omega)
    simp only [b]
    exact ⟨by omega, by rw [enc_of_1 _ l, show a + 1 - a = 1 from by omega, seg_1]⟩
  · by_cases c1 : a + 1 < n ∧ lo (f a) ≤ f (a + 1) ∧ f (a + 1) ≤ hi (f a)
    · rw [it_2 f n a s c1, hb_2 (f a) s]
      have l := len_2 (f a % 32 * 64 + f (a + 1) % 64) (by omega) (by omega)
      refine ⟨by simp only []; omega, ?_⟩
      simp only []
      rw [enc_of_2 _ l, show a + 2 - a = 2 from by omega, seg_2]
      rw [show 192 + (f a % 32 * 64 + f (a + 1) % 64) / 64 = f a from by omega, show 128 + (f a % 32 * 64 + f (a + 1) % 64) % 64 = f (a + 1) from by omega]
    · have e : it f n a = (65533, a + 1, false) := by unfold it; rw [if_neg (by omega), s, run_stop _ _ _ _ _ _ _ (by decide) c1]
      rw [e] at h; simp at h
  · by_cases c1 : a + 1 < n ∧ lo (f a) ≤ f (a + 1) ∧ f (a + 1) ≤ hi (f a)
    · by_cases c2 : a + 2 < n ∧ 128 ≤ f (a + 2) ∧ f (a + 2) ≤ 191
      · rw [it_3 f n a s c1 c2, hb_3 (f a) s]
        have l := len_3 ((f a % 16 * 64 + f (a + 1) % 64) * 64 + f (a + 2) % 64) (by omega) (by omega) (by omega)
        refine ⟨by simp only []; omega, ?_⟩
        simp only []
        rw [enc_of_3 _ l, show a + 3 - a = 3 from by omega, seg_3]
        rw [show 224 + ((f a % 16 * 64 + f (a + 1) % 64) * 64 + f (a + 2) % 64) / 64 / 64 = f a from by omega, show 128 + ((f a % 16 * 64 + f (a + 1) % 64) * 64 + f (a + 2) % 64) / 64 % 64 = f (a + 1) from by omega, show 128 + ((f a % 16 * 64 + f (a + 1) % 64) * 64 + f (a + 2) % 64) % 64 = f (a + 2) from by omega]
      · have e : it f n a = (65533, a + 2, false) := by unfold it; rw [if_neg (by omega), s, run_go _ _ _ _ _ _ _ (by decide) c1, run_stop _ _ _ _ _ _ _ (by decide) c2]
        rw [e] at h; simp at h
    · have e : it f n a = (65533, a + 1, false) := by unfold it; rw [if_neg (by omega), s, run_stop _ _ _ _ _ _ _ (by decide) c1]
      rw [e] at h; simp at h
  · by_cases c1 : a + 1 < n ∧ lo (f a) ≤ f (a + 1) ∧ f (a + 1) ≤ hi (f a)
    · by_cases c2 : a + 2 < n ∧ 128 ≤ f (a + 2) ∧ f (a + 2) ≤ 191
      · by_cases c3 : a + 3 < n ∧ 128 ≤ f (a + 3) ∧ f (a + 3) ≤ 191
        · rw [it_4 f n a s c1 c2 c3, hb_4 (f a) s]
          have l := len_4 (((f a % 8 * 64 + f (a + 1) % 64) * 64 + f (a + 2) % 64) * 64 + f (a + 3) % 64) (by omega) (by omega)
          refine ⟨by simp only []; omega, ?_⟩
          simp only []
          rw [enc_of_4 _ l, show a + 4 - a = 4 from by omega, seg_4]
          rw [show 240 + (((f a % 8 * 64 + f (a + 1) % 64) * 64 + f (a + 2) % 64) * 64 + f (a + 3) % 64) / 64 / 64 / 64 = f a from by omega, show 128 + (((f a % 8 * 64 + f (a + 1) % 64) * 64 + f (a + 2) % 64) * 64 + f (a + 3) % 64) / 64 / 64 % 64 = f (a + 1) from by omega, show 128 + (((f a % 8 * 64 + f (a + 1) % 64) * 64 + f (a + 2) % 64) * 64 + f (a + 3) % 64) / 64 % 64 = f (a + 2) from by omega, show 128 + (((f a % 8 * 64 + f (a + 1) % 64) * 64 + f (a + 2) % 64) * 64 + f (a + 3) % 64) % 64 = f (a + 3) from by omega]
        · have e : it f n a = (65533, a + 3, false) := by unfold it; rw [if_neg (by omega), s, run_go _ _ _ _ _ _ _ (by decide) c1, run_go _ _ _ _ _ _ _ (by decide) c2, run_stop _ _ _ _ _ _ _ (by decide) c3]
          rw [e] at h; simp at h
      · have e : it f n a = (65533, a + 2, false) := by unfold it; rw [if_neg (by omega), s, run_go _ _ _ _ _ _ _ (by decide) c1, run_stop _ _ _ _ _ _ _ (by decide) c2]
        rw [e] at h; simp at h
    · have e : it f n a = (65533, a + 1, false) := by unfold it; rw [if_neg (by omega), s, run_stop _ _ _ _ _ _ _ (by decide) c1]
      rw [e] at h; simp at h

theorem run_bad (f : Nat → Int) (n : Nat) : ∀ k r e l h, (run f n k r e l h).2.2 = false → (run f n k r e l h).1 = 65533 := by
  intro k
  induction k with
  | zero => intro r e l h; simp [run]
  | succ k ih =>
    intro r e l h
    unfold run
    split
    · exact ih _ _ _ _
    · simp
theorem it_bad (f : Nat → Int) (n a : Nat) (h : (it f n a).2.2 = false) : (it f n a).1 = 65533 := by
  unfold it at h ⊢
  split
  · rfl
  · rename_i hs
    rw [if_neg hs] at h
    exact run_bad _ _ _ _ _ _ _ h
theorem it_len (f : Nat → Int) (n a : Nat) (hf : ∀ i, 0 ≤ f i ∧ f i ≤ 255) : len (it f n a).1 ≠ 0 := by
  cases h : (it f n a).2.2 with
  | true => exact (it_good f n a hf h).1
  | false => rw [it_bad f n a h]; decide
/-- The bytes of items, written anew. -/
def encs (l : List (Int × Nat × Nat)) : List Int := l.flatMap fun x => enc x.1
end Go.Proofs.YtlidgjkipbijlaaGreatDoor.utf
end
