/- A string's parts between a byte, as plain lists. -/
import Derived.Test.YtnpnmhjhohhnjaaDoorLinHex
import Derived.Lib.IndexLaws
set_option linter.unusedVariables false
set_option linter.unusedSimpArgs false
namespace Go.Proofs.YtnpnmhjhohhnjaaDoor.lin
open Go.RowKit

/-- The parts of s from a on between bytes b: p is looked at, k bytes are left. -/
def cuts (s : ByteArray) (b : Int) : Nat → Nat → Nat → List ByteArray
  | 0, _, a => [s.extract a s.size]
  | k + 1, p, a => if at8 s p = b then s.extract a p :: cuts s b k (p + 1) (p + 1) else cuts s b k (p + 1) a
/-- A string's parts between a byte. -/
def cutV (s : ByteArray) (b : Int) : List ByteArray := cuts s b s.size 0 0

theorem cuts_hit (s : ByteArray) (b : Int) (k p a : Nat) (hk : k ≠ 0) (h : at8 s p = b) : cuts s b k p a = s.extract a p :: cuts s b (k - 1) (p + 1) (p + 1) := by
  cases k with
  | zero => omega
  | succ k => rw [cuts, if_pos h]; rfl
theorem cuts_not (s : ByteArray) (b : Int) (k p a : Nat) (hk : k ≠ 0) (h : at8 s p ≠ b) : cuts s b k p a = cuts s b (k - 1) (p + 1) a := by
  cases k with
  | zero => omega
  | succ k => rw [cuts, if_neg h]; rfl
theorem cuts_skip (s : ByteArray) (b : Int) : ∀ q p a, p + q ≤ s.size → (∀ j, p ≤ j → j < p + q → at8 s j ≠ b) → cuts s b (s.size - p) p a = cuts s b (s.size - (p + q)) (p + q) a := by
  intro q
  induction q with
  | zero => intro p a _ _; rfl
  | succ q ih =>
    intro p a hp h
    rw [cuts_not s b (s.size - p) p a (by omega) (h p (Nat.le_refl _) (by omega)), show s.size - p - 1 = s.size - (p + 1) from by omega, ih (p + 1) a (by omega) (fun j h1 h2 => h j (by omega) (by omega)), show p + 1 + q = p + (q + 1) from by omega]

theorem ext_get (s : ByteArray) (a k : Nat) : (s.extract a s.size).data.toList[k]? = if h : a + k < s.size then some (s[a + k]'h) else none := by
  rw [ByteArray.data_extract, Array.getElem?_toList]
  show (s.data.extract a s.data.size)[k]? = _
  rw [Array.getElem?_extract]
  split
  · rename_i h
    have hz : s.data.size = s.size := rfl
    have h' : a + k < s.size := by simp at h; omega
    rw [dif_pos h']
    exact Array.getElem?_eq_getElem h'
  · rename_i h
    rw [dif_neg]
    intro h'
    apply h
    have : a + k < s.data.size := h'
    simp; omega

theorem rest_none (s : ByteArray) (a : Nat) (ha : a ≤ s.size) (h : Lib.indexByte (s.extract a s.size).data.toList 10 = -1) : cuts s 10 (s.size - a) a a = [s.extract a s.size] := by
  have hn := Lib.indexByte_none h
  rw [cuts_skip s 10 (s.size - a) a a (by omega) ?_, show s.size - (a + (s.size - a)) = 0 from by omega]
  · rfl
  · intro j h1 h2
    have hj : j < s.size := by omega
    have := hn (j - a)
    rw [ext_get, dif_pos (by omega : a + (j - a) < s.size)] at this
    rw [at8_eq s j hj]
    intro e
    apply this
    congr 1
    simp only [show a + (j - a) = j from by omega]
    apply UInt8.toNat_inj.1
    show _ = 10
    omega

theorem rest_some (s : ByteArray) (a o : Nat) (ha : a ≤ s.size) (h : Lib.indexByte (s.extract a s.size).data.toList 10 = o) :
    a + o < s.size ∧ cuts s 10 (s.size - a) a a = s.extract a (a + o) :: cuts s 10 (s.size - (a + o + 1)) (a + o + 1) (a + o + 1) := by
  obtain ⟨h1, h2⟩ := Lib.indexByte_some h
  have hlt : a + o < s.size := by
    rw [ext_get] at h1
    split at h1
    · assumption
    · cases h1
  refine ⟨hlt, ?_⟩
  rw [cuts_skip s 10 o a a (by omega) ?_, cuts_hit s 10 (s.size - (a + o)) (a + o) a (by omega) ?_, show s.size - (a + o) - 1 = s.size - (a + o + 1) from by omega]
  · rw [ext_get, dif_pos hlt] at h1
    rw [at8_eq s _ hlt, Option.some.inj h1]; rfl
  · intro j hj1 hj2
    have := h2 (j - a) (by omega)
    have hj : j < s.size := by omega
    rw [ext_get, dif_pos (by omega : a + (j - a) < s.size)] at this
    rw [at8_eq s j hj]
    intro e
    apply this
    congr 1
    simp only [show a + (j - a) = j from by omega]
    apply UInt8.toNat_inj.1
    show _ = 10
    omega

theorem ext_ext (s : ByteArray) (a i j : Nat) (ha : a ≤ s.size) : (s.extract a s.size).extract i j = s.extract (a + i) (min (a + j) s.size) := by
  rw [ByteArray.extract_extract]
theorem ext_first (s : ByteArray) (a o : Nat) (h : a + o ≤ s.size) : (s.extract a s.size).extract 0 o = s.extract a (a + o) := by
  rw [ext_ext s a 0 o (by omega), Nat.add_zero, Nat.min_eq_left h]
theorem ext_last (s : ByteArray) (a o : Nat) (ha : a ≤ s.size) : (s.extract a s.size).extract o (s.extract a s.size).size = s.extract (a + o) s.size := by
  rw [ext_ext s a o _ ha, ByteArray.size_extract]
  congr 1
  omega
end Go.Proofs.YtnpnmhjhohhnjaaDoor.lin
