/- A name loosely, over lists of bytes. -/
import Derived.Test.YtnpnmhjhohhnjaaDoorLinPure
set_option linter.unusedVariables false
set_option linter.unusedSimpArgs false
namespace Go.Proofs.YtnpnmhjhohhnjaaDoor.nam
open Go.RowKit lin

/-- What a byte comes to. -/
def low (c : UInt8) : List UInt8 := if c = 32 ∨ c = 45 ∨ c = 95 then [] else if 65 ≤ c.toNat ∧ c.toNat ≤ 90 then [c + 32] else [c]
def sift (l : List UInt8) : List UInt8 := l.flatMap low
def strip (l : List UInt8) : List UInt8 := if 2 < l.length ∧ l.take 2 = [105, 115] then l.drop 2 else l
def looseL (l : List UInt8) : List UInt8 := strip (sift l)

theorem u8_eq (c : UInt8) (n : Nat) (h : n < 256) : c = UInt8.ofNat n ↔ c.toNat = n := by
  constructor
  · rintro rfl; simp; omega
  · intro e; rw [← e]; simp
theorem low_not (c : UInt8) (h : c.toNat = 32 ∨ c.toNat = 45 ∨ c.toNat = 95) : low c = [] := by
  unfold low
  rw [if_pos]
  rcases h with h | h | h
  · exact .inl ((u8_eq c 32 (by decide)).2 h)
  · exact .inr (.inl ((u8_eq c 45 (by decide)).2 h))
  · exact .inr (.inr ((u8_eq c 95 (by decide)).2 h))
theorem low_ne (c : UInt8) (h : ¬ (c.toNat = 32 ∨ c.toNat = 45 ∨ c.toNat = 95)) : ¬ (c = 32 ∨ c = 45 ∨ c = 95) := by
  rintro (rfl | rfl | rfl) <;> simp at h
theorem low_great (c : UInt8) (h1 : 65 ≤ c.toNat) (h2 : c.toNat ≤ 90) (h : ¬ (c.toNat = 32 ∨ c.toNat = 45 ∨ c.toNat = 95)) : low c = [UInt8.ofNat (c.toNat + 32)] := by
  unfold low
  rw [if_neg (low_ne c h), if_pos ⟨h1, h2⟩]
  congr 1
theorem low_else (c : UInt8) (h1 : ¬ (65 ≤ c.toNat ∧ c.toNat ≤ 90)) (h : ¬ (c.toNat = 32 ∨ c.toNat = 45 ∨ c.toNat = 95)) : low c = [c] := by
  unfold low
  rw [if_neg (low_ne c h), if_neg h1]
theorem sift_snoc (l : List UInt8) (c : UInt8) : sift (l ++ [c]) = sift l ++ low c := by simp [sift]
theorem sift_append (a b : List UInt8) : sift (a ++ b) = sift a ++ sift b := by simp [sift]
theorem sift_len (l : List UInt8) : (sift l).length ≤ l.length := by
  induction l with
  | nil => simp [sift]
  | cons c r ih =>
    have : (low c).length ≤ 1 := by unfold low; (repeat' split) <;> simp
    simp only [sift, List.flatMap_cons, List.length_append, List.length_cons] at *
    omega
theorem strip_len (l : List UInt8) : (strip l).length ≤ l.length := by unfold strip; split <;> simp
theorem looseL_len (l : List UInt8) : (looseL l).length ≤ l.length := Nat.le_trans (strip_len _) (sift_len l)
theorem take_next (s : ByteArray) (k : Nat) (h : k < s.size) : s.data.toList.take (k + 1) = s.data.toList.take k ++ [s[k]'h] := by
  rw [List.take_add_one, List.getElem?_eq_getElem (by simpa using h)]; rfl
theorem strip_two (l : List UInt8) (h : l.length = 2) : strip l = l := by unfold strip; rw [if_neg]; omega
theorem strip_trim (l : List UInt8) (h : l.length ≠ 2) : strip l = Lib.trimPrefix l [105, 115] := by
  unfold strip Lib.trimPrefix Lib.hasPrefix
  by_cases h1 : l.take 2 = [105, 115]
  · have h2 : 2 ≤ l.length := by
      have := congrArg List.length h1
      simp at this
      omega
    rw [if_pos ⟨by omega, h1⟩, if_pos]
    · rfl
    · first
        | (rw [List.isPrefixOf_iff_prefix]; exact ⟨l.drop 2, by rw [← h1, List.take_append_drop]⟩)
        | (simp [List.isPrefixOf]; done)
  · rw [if_neg (fun h => h1 h.2), if_neg]
    intro hp
    apply h1
    rw [List.isPrefixOf_iff_prefix] at hp
    obtain ⟨t, rfl⟩ := hp
    rfl
end Go.Proofs.YtnpnmhjhohhnjaaDoor.nam
