/- Digits, letters, the place of a byte, as plain functions. -/
import Derived.Lib.Bytes
import Derived.Lib.Bytealg
set_option linter.unusedVariables false
namespace Go.Proofs.Ytpdkdfgcnhcmkaa.edt

def dg (c : Int) : Bool := decide (48 ≤ c) && decide (c ≤ 57)
def lt_ (c : Int) : Bool := (decide (97 ≤ c) && decide (c ≤ 122)) || (decide (65 ≤ c) && decide (c ≤ 90)) || decide (c = 95)
def ld (c : Int) : Bool := lt_ c || dg c
theorem dg_iff (c : Int) : dg c = true ↔ 48 ≤ c ∧ c ≤ 57 := by simp [dg]
theorem dg_no (c : Int) : dg c = false ↔ ¬ (48 ≤ c ∧ c ≤ 57) := by rw [← dg_iff]; simp
/-- The number that digits say. -/
def val (l : List Int) : Int := l.foldl (fun n c => 10 * n + (c - 48)) 0
theorem val_snoc (l : List Int) (c : Int) : val (l ++ [c]) = 10 * val l + (c - 48) := by simp [val]
/-- The first place of a byte; -1: none. -/
def ix (c : Int) : List Int → Int
  | [] => -1
  | b :: l => if b = c then 0 else if ix c l = -1 then -1 else ix c l + 1
theorem ix_ge (c : Int) : ∀ l, -1 ≤ ix c l
  | [] => by simp [ix]
  | b :: l => by have := ix_ge c l; unfold ix; split; omega; split <;> omega
theorem ix_lt (c : Int) : ∀ l, ix c l < l.length
  | [] => by simp [ix]
  | b :: l => by have := ix_lt c l; unfold ix; simp only [List.length_cons]; split; omega; split <;> omega
theorem ofNat_eq {a b : Int} (ha : 0 ≤ a) (ha2 : a ≤ 255) (hb : 0 ≤ b) (hb2 : b ≤ 255) : (UInt8.ofNat a.toNat == UInt8.ofNat b.toNat) = decide (a = b) := by
  by_cases h : a = b
  · subst h; simp
  · rw [decide_eq_false h]
    apply beq_false_of_ne
    intro e
    have e2 := congrArg UInt8.toNat e
    rw [UInt8.toNat_ofNat', UInt8.toNat_ofNat'] at e2
    rw [Nat.mod_eq_of_lt (by omega), Nat.mod_eq_of_lt (by omega)] at e2
    exact h (by omega)
theorem ix_bytes (c : Int) (hc : 0 ≤ c) (hc2 : c ≤ 255) : ∀ l : List Int, (∀ x ∈ l, 0 ≤ x ∧ x ≤ 255) → Lib.indexByte (Lib.bytesOf l) (UInt8.ofNat c.toNat) = ix c l
  | [], _ => rfl
  | b :: l, h => by
    have ih := ix_bytes c hc hc2 l (fun x hx => h x (List.mem_cons_of_mem _ hx))
    have hb := h b (List.mem_cons_self)
    show (if UInt8.ofNat b.toNat == UInt8.ofNat c.toNat then 0 else if Lib.indexByte (Lib.bytesOf l) (UInt8.ofNat c.toNat) == -1 then -1 else Lib.indexByte (Lib.bytesOf l) (UInt8.ofNat c.toNat) + 1) = ix c (b :: l)
    rw [ih, ofNat_eq hb.1 hb.2 hc hc2]
    rw [show ix c (b :: l) = (if b = c then 0 else if ix c l = -1 then -1 else ix c l + 1) from rfl]
    simp
theorem mem_range {l : List Int} (h : ∀ i, 0 ≤ l.getD i 0 ∧ l.getD i 0 ≤ 255) : ∀ x ∈ l, 0 ≤ x ∧ x ≤ 255 := by
  intro x hx
  obtain ⟨i, hi, rfl⟩ := List.mem_iff_getElem.1 hx
  have := h i
  rwa [List.getD_eq_getElem?_getD, List.getElem?_eq_getElem hi, Option.getD_some] at this
theorem range_mem {l : List Int} (h : ∀ x ∈ l, 0 ≤ x ∧ x ≤ 255) : ∀ i, 0 ≤ l.getD i 0 ∧ l.getD i 0 ≤ 255 := by
  intro i
  rw [List.getD_eq_getElem?_getD]
  cases e : l[i]? with
  | none => simp
  | some x => exact h x (List.mem_of_getElem? e)
theorem take_snoc {α : Type} (l : List α) (k : Nat) (d : α) (h : k < l.length) : l.take (k + 1) = l.take k ++ [l.getD k d] := by
  rw [List.take_add_one, List.getD_eq_getElem?_getD, List.getElem?_eq_getElem h]; rfl
theorem drop_cons {α : Type} (l : List α) (k : Nat) (d : α) (h : k < l.length) : l.drop k = l.getD k d :: l.drop (k + 1) := by
  rw [List.drop_eq_getElem_cons h, List.getD_eq_getElem?_getD, List.getElem?_eq_getElem h]; rfl
theorem all_drop {l : List Int} {p : Int → Bool} (k : Nat) (h : k < l.length) : (l.drop k).all p = (p (l.getD k 0) && (l.drop (k + 1)).all p) := by
  rw [drop_cons l k 0 h, List.all_cons]
end Go.Proofs.Ytpdkdfgcnhcmkaa.edt
