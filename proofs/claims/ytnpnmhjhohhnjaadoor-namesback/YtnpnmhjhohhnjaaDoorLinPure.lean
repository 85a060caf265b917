/- Lines and fields as plain lists of bytes. -/
import Derived.Test.YtnpnmhjhohhnjaaDoorLinRecs
set_option linter.unusedVariables false
set_option linter.unusedSimpArgs false
namespace Go.Proofs.YtnpnmhjhohhnjaaDoor.lin
open Go.RowKit

def BA (l : List UInt8) : ByteArray := ⟨l.toArray⟩
theorem BA_list (s : ByteArray) : BA s.data.toList = s := rfl
theorem BA_data (l : List UInt8) : (BA l).data.toList = l := rfl
theorem BA_size (l : List UInt8) : (BA l).size = l.length := rfl
theorem size_list (s : ByteArray) : s.data.toList.length = s.size := Array.length_toList

/-- A list ahead of the first of lists. -/
def glue (x : List UInt8) : List (List UInt8) → List (List UInt8)
  | [] => [x]
  | h :: t => (x ++ h) :: t
/-- The parts of a list between a byte. -/
def cutL (b : UInt8) : List UInt8 → List (List UInt8)
  | [] => [[]]
  | x :: l => if x = b then [] :: cutL b l else glue [x] (cutL b l)

theorem glue_glue (x y : List UInt8) (L : List (List UInt8)) : glue x (glue y L) = glue (x ++ y) L := by
  cases L <;> simp [glue]
theorem cutL_ne (b : UInt8) (l : List UInt8) : cutL b l ≠ [] := by
  cases l with
  | nil => simp [cutL]
  | cons x l =>
    rw [cutL]; split
    · simp
    · cases cutL b l <;> simp [glue]
theorem glue_nil {L : List (List UInt8)} (h : L ≠ []) : glue [] L = L := by
  cases L with
  | nil => exact absurd rfl h
  | cons h t => rfl
theorem drop_cons (s : ByteArray) (p : Nat) (h : p < s.size) : s.data.toList.drop p = s[p]'h :: s.data.toList.drop (p + 1) := by
  rw [List.drop_eq_getElem_cons (by rw [size_list]; exact h)]
  rfl
theorem ext_list (s : ByteArray) (a p : Nat) : s.extract a p = BA ((s.data.toList.drop a).take (p - a)) := by
  apply ByteArray.ext
  show (s.extract a p).data = ((s.data.toList.drop a).take (p - a)).toArray
  rw [ByteArray.data_extract]
  apply Array.ext'
  rw [Array.toList_extract]
theorem take_snoc (s : ByteArray) (a p : Nat) (h : p < s.size) (ha : a ≤ p) : (s.data.toList.drop a).take (p + 1 - a) = (s.data.toList.drop a).take (p - a) ++ [s[p]'h] := by
  rw [show p + 1 - a = p - a + 1 from by omega, List.take_add_one]
  congr 1
  rw [List.getElem?_drop, show a + (p - a) = p from by omega, List.getElem?_eq_getElem (by rw [size_list]; exact h)]
  rfl

theorem cuts_list (s : ByteArray) (b : UInt8) : ∀ k p a, p + k = s.size → a ≤ p → cuts s (b.toNat : Int) k p a = (glue ((s.data.toList.drop a).take (p - a)) (cutL b (s.data.toList.drop p))).map BA := by
  intro k
  induction k with
  | zero =>
    intro p a hp ha
    rw [show s.data.toList.drop p = [] from List.drop_eq_nil_of_le (by rw [size_list]; omega)]
    show [s.extract a s.size] = [BA ((s.data.toList.drop a).take (p - a) ++ [])]
    rw [ext_list, List.append_nil, show p = s.size from by omega]
  | succ k ih =>
    intro p a hp ha
    have hlt : p < s.size := by omega
    rw [cuts, at8_eq s p hlt, drop_cons s p hlt, cutL]
    by_cases hb : s[p]'hlt = b
    · rw [if_pos (by rw [hb]), if_pos hb, ih (p + 1) (p + 1) (by omega) (Nat.le_refl _), ext_list, Nat.sub_self, List.take_zero, glue_nil (cutL_ne _ _)]
      simp [glue]
    · rw [if_neg (fun e => hb (UInt8.toNat_inj.1 (by omega))), if_neg hb, ih (p + 1) a (by omega) (by omega), take_snoc s a p hlt ha, glue_glue]
theorem cutV_list (s : ByteArray) (b : UInt8) : cutV s (b.toNat : Int) = (cutL b s.data.toList).map BA := by
  unfold cutV
  rw [cuts_list s b s.size 0 0 (by omega) (Nat.le_refl _), Nat.sub_self, List.take_zero, List.drop_zero, glue_nil (cutL_ne _ _)]

theorem cutL_append (b : UInt8) (x y : List UInt8) : cutL b (x ++ b :: y) = cutL b x ++ cutL b y := by
  induction x with
  | nil => simp [cutL]
  | cons z x ih =>
    rw [List.cons_append, cutL, cutL, ih]
    split
    · rfl
    · cases hc : cutL b x with
      | nil => exact absurd hc (cutL_ne _ _)
      | cons h t => simp [glue]
theorem cutL_none (b : UInt8) (x : List UInt8) (h : b ∉ x) : cutL b x = [x] := by
  induction x with
  | nil => rfl
  | cons z x ih =>
    rw [cutL, if_neg (fun e => h (by simp [e])), ih (fun h' => h (by simp [h']))]
    rfl
theorem cutL_one (b : UInt8) : ∀ (l x : List UInt8), cutL b l = [x] → x = l := by
  intro l
  induction l with
  | nil => intro x h; simpa [cutL] using h
  | cons z l ih =>
    intro x h
    rw [cutL] at h
    split at h
    · simp at h; exact absurd h.2 (cutL_ne _ _)
    · cases hc : cutL b l with
      | nil => exact absurd hc (cutL_ne _ _)
      | cons h0 t =>
        rw [hc] at h
        simp [glue] at h
        obtain ⟨rfl, rfl⟩ := h
        rw [ih h0 hc]

def blank (b : UInt8) : Bool := [32, 9].contains b
def trimL (l : List UInt8) : List UInt8 := Lib.trimS l [32, 9]
theorem trim_BA (l : List UInt8) : trim (BA l) = BA (trimL l) := rfl
theorem trimL_eq (l : List UInt8) : trimL l = ((l.reverse.dropWhile blank).reverse).dropWhile blank := rfl

theorem trimL_cons (x : UInt8) (l : List UInt8) (h : blank x = true) : trimL (x :: l) = trimL l := by
  rw [trimL_eq, trimL_eq, List.reverse_cons, List.dropWhile_append]
  split
  · rename_i h'
    rw [List.isEmpty_iff] at h'
    rw [h']
    simp [List.dropWhile, h]
  · rw [List.reverse_append]
    simp [List.dropWhile, h]
theorem trimL_snoc (x : UInt8) (l : List UInt8) (h : blank x = true) : trimL (l ++ [x]) = trimL l := by
  rw [trimL_eq, trimL_eq, List.reverse_append]
  simp [List.dropWhile, h]

theorem cutL_cons_not (b x : UInt8) (l : List UInt8) (h : x ≠ b) : cutL b (x :: l) = glue [x] (cutL b l) := by rw [cutL, if_neg h]
theorem cutL_snoc_not (b x : UInt8) (h : x ≠ b) (l : List UInt8) : ∃ A z, cutL b l = A ++ [z] ∧ cutL b (l ++ [x]) = A ++ [z ++ [x]] := by
  induction l with
  | nil => exact ⟨[], [], rfl, by simp [cutL, h, glue]⟩
  | cons y l ih =>
    obtain ⟨A, z, h1, h2⟩ := ih
    rw [List.cons_append, cutL, cutL, h1, h2]
    split
    · exact ⟨[] :: A, z, rfl, rfl⟩
    · cases A with
      | nil => exact ⟨[], y :: z, by simp [glue], by simp [glue]⟩
      | cons a A => exact ⟨(y :: a) :: A, z, by simp [glue], by simp [glue]⟩

theorem blank_not (x : UInt8) (h : blank x = true) : x ≠ 59 := by rintro rfl; exact absurd h (by decide)

theorem cut_left (l : List UInt8) : (cutL 59 (l.dropWhile blank)).map trimL = (cutL 59 l).map trimL := by
  induction l with
  | nil => rfl
  | cons x l ih =>
    rw [List.dropWhile_cons]
    split
    · rename_i h
      rw [ih, cutL_cons_not 59 x l (blank_not x h)]
      cases hc : cutL 59 l with
      | nil => exact absurd hc (cutL_ne _ _)
      | cons a t => simp [glue, trimL_cons x a h]
    · rfl
theorem cut_right (l : List UInt8) : (cutL 59 (l.dropWhile blank).reverse).map trimL = (cutL 59 l.reverse).map trimL := by
  induction l with
  | nil => rfl
  | cons x l ih =>
    rw [List.dropWhile_cons]
    split
    · rename_i h
      rw [ih, List.reverse_cons]
      obtain ⟨A, z, h1, h2⟩ := cutL_snoc_not 59 x (blank_not x h) l.reverse
      rw [h1, h2]
      simp [trimL_snoc x z h]
    · rfl
theorem cut_trim (l : List UInt8) : (cutL 59 (trimL l)).map trimL = (cutL 59 l).map trimL := by
  rw [trimL_eq, cut_left, cut_right, List.reverse_reverse]

theorem dw_id (m : List UInt8) (h : ∀ x, m.head? = some x → blank x = false) : m.dropWhile blank = m := by
  cases m with
  | nil => rfl
  | cons x m => rw [List.dropWhile_cons, if_neg (by rw [h x rfl]; simp)]
theorem dw_head (m : List UInt8) : ∀ x, (m.dropWhile blank).head? = some x → blank x = false := by
  induction m with
  | nil => intro x h; simp at h
  | cons y m ih =>
    intro x h
    rw [List.dropWhile_cons] at h
    split at h
    · exact ih x h
    · rename_i hb
      simp at h
      subst h
      simpa using hb
theorem dw_last (m : List UInt8) : ∀ x, (m.dropWhile blank).getLast? = some x → m.getLast? = some x := by
  induction m with
  | nil => intro x h; simp at h
  | cons y m ih =>
    intro x h
    rw [List.dropWhile_cons] at h
    split at h
    · have := ih x h
      rw [List.getLast?_cons, this]
      rfl
    · exact h
theorem trimL_idem (l : List UInt8) : trimL (trimL l) = trimL l := by
  rw [trimL_eq (trimL l), dw_id (trimL l).reverse, List.reverse_reverse, dw_id]
  · intro x h
    exact dw_head _ x h
  · intro x h
    rw [List.head?_reverse] at h
    have h2 := dw_last _ x (by rw [trimL_eq] at h; exact h)
    rw [List.getLast?_reverse] at h2
    exact dw_head _ x h2

/-- A line's fields. -/
def fieldsL (l : List UInt8) : List (List UInt8) :=
  if (cutL 59 (l.takeWhile (· ≠ 35))).map trimL = [[]] then [] else (cutL 59 (l.takeWhile (· ≠ 35))).map trimL
/-- The same, by the trimmed text. -/
theorem fieldsL_ref (l : List UInt8) : fieldsL l = if trimL (l.takeWhile (· ≠ 35)) = [] then [] else (cutL 59 (trimL (l.takeWhile (· ≠ 35)))).map trimL := by
  unfold fieldsL
  generalize l.takeWhile (· ≠ 35) = h
  by_cases ht : trimL h = []
  · rw [if_pos ht, if_pos]
    rw [← cut_trim, ht]
    rfl
  · rw [if_neg ht, if_neg, cut_trim]
    intro e
    rw [← cut_trim] at e
    apply ht
    cases hc : cutL 59 (trimL h) with
    | nil => exact absurd hc (cutL_ne _ _)
    | cons x t =>
      rw [hc] at e
      simp at e
      obtain ⟨e1, rfl⟩ := e
      rw [cutL_one 59 _ x hc, trimL_idem] at e1
      exact e1

theorem cutL_head (b : UInt8) (l : List UInt8) : (cutL b l).headD [] = l.takeWhile (· ≠ b) := by
  induction l with
  | nil => rfl
  | cons x l ih =>
    rw [cutL, List.takeWhile_cons]
    by_cases h : x = b
    · rw [if_pos h, if_neg (by simp [h])]; rfl
    · rw [if_neg h, if_pos (by simp [h]), ← ih]
      cases hc : cutL b l with
      | nil => exact absurd hc (cutL_ne _ _)
      | cons a t => rfl

/-- What scan and close tell, as lists. -/
theorem scan_list (s : ByteArray) : ∀ k p st out, p + k = s.size → st ≤ p →
    (scan s k p st out).1 ++ [trim (s.extract (scan s k p st out).2.1 (scan s k p st out).2.2)] = out ++ (glue ((s.data.toList.drop st).take (p - st)) (cutL 59 ((s.data.toList.drop p).takeWhile (· ≠ 35)))).map (fun l => BA (trimL l)) := by
  intro k
  induction k with
  | zero =>
    intro p st out hp hst
    rw [show s.data.toList.drop p = [] from List.drop_eq_nil_of_le (by rw [size_list]; omega)]
    show out ++ [trim (s.extract st s.size)] = out ++ [BA (trimL ((s.data.toList.drop st).take (p - st) ++ []))]
    rw [ext_list, List.append_nil, show p = s.size from by omega]
    rfl
  | succ k ih =>
    intro p st out hp hst
    have hlt : p < s.size := by omega
    rw [scan, at8_eq s p hlt, drop_cons s p hlt, List.takeWhile_cons]
    by_cases h35 : s[p]'hlt = 35
    · rw [if_pos (by rw [h35]; rfl), if_neg (by simp [h35])]
      show out ++ [trim (s.extract st p)] = out ++ [BA (trimL ((s.data.toList.drop st).take (p - st) ++ []))]
      rw [ext_list, List.append_nil]
      rfl
    · rw [if_neg (fun e => h35 (UInt8.toNat_inj.1 (by have : (35 : UInt8).toNat = 35 := rfl; omega))), if_pos (c := decide (s[p]'hlt ≠ 35) = true) (by simp [h35]), cutL]
      by_cases h59 : s[p]'hlt = 59
      · rw [if_pos (c := ((s[p]'hlt).toNat : Int) = 59) (by rw [h59]; rfl), if_pos h59, ih (p + 1) (p + 1) _ (by omega) (Nat.le_refl _), ext_list, Nat.sub_self, List.take_zero, glue_nil (cutL_ne _ _)]
        simp [glue, trim_BA]
      · rw [if_neg (fun e => h59 (UInt8.toNat_inj.1 (by have : (59 : UInt8).toNat = 59 := rfl; omega))), if_neg h59, ih (p + 1) st out (by omega) (by omega), take_snoc s st p hlt hst, glue_glue]

theorem fieldsV_list (s : ByteArray) : fieldsV s = (fieldsL s.data.toList).map BA := by
  have h := scan_list s s.size 0 0 [] (by omega) (Nat.le_refl _)
  rw [Nat.sub_self, List.take_zero, List.drop_zero, glue_nil (cutL_ne _ _), List.nil_append] at h
  unfold fieldsV close fieldsL
  generalize scan s s.size 0 0 [] = X at *
  have h' : X.1 ++ [trim (s.extract X.2.1 X.2.2)] = ((cutL 59 (s.data.toList.takeWhile (· ≠ 35))).map trimL).map BA := by rw [h, List.map_map]; rfl
  generalize (cutL 59 (s.data.toList.takeWhile (· ≠ 35))).map trimL = F at *
  generalize trim (s.extract X.2.1 X.2.2) = t at *
  by_cases hF : F = [[]]
  · rw [if_pos hF]
    rw [hF] at h'
    have h1 : X.1.length = 0 := by have := congrArg List.length h'; simp at this; simp [this]
    have h2 : t = BA [] := by rw [List.length_eq_zero_iff.1 h1] at h'; simpa using h'
    rw [if_pos ⟨h1, by rw [h2]; rfl⟩]
    rfl
  · rw [if_neg hF, if_neg, h']
    rintro ⟨h1, h2⟩
    apply hF
    rw [List.length_eq_zero_iff.1 h1] at h'
    cases F with
    | nil => simp at h'
    | cons a F =>
      simp at h'
      obtain ⟨rfl, rfl⟩ := h'
      rw [BA_size] at h2
      rw [List.length_eq_zero_iff.1 h2]
end Go.Proofs.YtnpnmhjhohhnjaaDoor.lin
