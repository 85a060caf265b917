/- Texts that the proof leans on, one behind the other. -/
import Derived.Test.YtlidgjkipbijlaaGreatDoorBdLin1
import Derived.Test.YtlidgjkipbijlaaGreatDoorBdLin2
import Derived.Shelf.Abstract
import Derived.Shelf.RegionOpen
import Derived.WalkKit
import Derived.OwnWalkIn
import Derived.TacticsInMore
import Derived.LoopNIn
import Derived.LoopIn
import Derived.Sort.LoopGhostIn

section
/- Records in memory: what lines.Parse answers, as plain lists; how they lie. -/
set_option linter.unusedVariables false
set_option linter.unusedSimpArgs false
namespace Go.Proofs.YtlidgjkipbijlaaGreatDoor.lin
open Go.RowKit

/-- Strings fs lie in one block of strings from base on, and v is the slice of them. -/
def FAt (w : World) (base : Nat) (v : Value) (fs : List ByteArray) : Prop :=
  ∃ g off cap cur, v = .slice (some ⟨g, off, none⟩) fs.length cap ∧ base ≤ g ∧ w.heap[g]? = some (.cells cur 9 (0, 0)) ∧ ∀ j, j < fs.length → cur[off + j]? = some (.string (fs.getD j ByteArray.empty))
theorem FAt.lower {w : World} {base base2 : Nat} {v : Value} {fs : List ByteArray} (h : FAt w base2 v fs) (hb : base ≤ base2) : FAt w base v fs := by
  obtain ⟨g, off, cap, cur, rfl, hg, rest⟩ := h
  exact ⟨g, off, cap, cur, rfl, by omega, rest⟩
theorem FAt.kept {A B : World} {base : Nat} {v : Value} {fs : List ByteArray} (h : FAt A base v fs) (hb : Below A.heap.size A B) : FAt B base v fs := by
  obtain ⟨g, off, cap, cur, rfl, hg, hgg, hc⟩ := h
  exact ⟨g, off, cap, cur, rfl, hg, (hb.block g (Array.getElem?_eq_some_iff.1 hgg).1).trans hgg, hc⟩
theorem own_typed {w : World} {base e size n : Nat} {v : Value} {xs : List Value} (ho : w.ownsRow base e size v n xs) : ∀ k, v.ownBlock = some k → ∃ cur, w.heap[k]? = some (.cells cur e (0, 0)) := by
  intro k e
  rcases ho.2 with hn | ⟨g', cap', cur', hv', h1, h2, _⟩
  · rw [hn.1] at e; cases e
  · rw [hv'] at e; cases e; exact ⟨_, h2⟩
/-- A record: its bounds, its fields' value, its fields. -/
structure RR where
  lo : Int
  hi : Int
  fv : Value
  fs : List ByteArray
abbrev RecT := Int × Int × List ByteArray
def RR.plain (q : RR) : RecT := (q.lo, q.hi, q.fs)
def flatR (L : List RR) : List Value := L.flatMap fun q => [.int .i64 q.lo, .int .i64 q.hi, q.fv]
/-- v is a slice of records rs, a row of its own from base on. -/
def Recs (w : World) (base : Nat) (v : Value) (rs : List RecT) : Prop :=
  ∃ L : List RR, L.map RR.plain = rs ∧ w.ownsRow base 82 3 v L.length (flatR L) ∧ ∀ q ∈ L, FAt w base q.fv q.fs

theorem FAt.turns {D : Nat → Prop} {A B : World} {base : Nat} {v : Value} {fs : List ByteArray} (h : FAt A base v fs) (t : Turns D A B) (hd : ∀ k, D k → k < base ∨ (∃ cur, A.heap[k]? = some (.cells cur 82 (0, 0)))) : FAt B base v fs := by
  obtain ⟨g, off, cap, cur, rfl, hg, hgg, hc⟩ := h
  refine ⟨g, off, cap, cur, rfl, hg, (t.block g (Array.getElem?_eq_some_iff.1 hgg).1 (fun d => ?_)).trans hgg, hc⟩
  rcases hd g d with h | ⟨cur', h⟩
  · omega
  · rw [hgg] at h; cases h
theorem Recs.turns {D : Nat → Prop} {A B : World} {base : Nat} {v : Value} {rs : List RecT} (h : Recs A base v rs) (t : Turns D A B) (hd : ∀ k, D k → k < base) : Recs B base v rs := by
  obtain ⟨L, hL, ho, hf⟩ := h
  exact ⟨L, hL, t.own ho (fun k e d => by have := (ho.lt k e).1; have := hd k d; omega), fun q hq => (hf q hq).turns t (fun k d => .inl (hd k d))⟩
theorem Recs.nil (w : World) (base : Nat) : Recs w base (.slice none 0 0) [] := ⟨[], rfl, World.ownsRow_nil _ _ _ _, fun _ h => by cases h⟩
theorem flatR_append (L M : List RR) : flatR (L ++ M) = flatR L ++ flatR M := by simp [flatR]
/-- A line says nothing, or a record. -/
def lineOk (x : ByteArray) : Bool := (fieldsV x).length == 0 || recB (fieldsV x)
def recV (fs : List ByteArray) : RecT := (boundsLo (fs.headD ByteArray.empty), boundsHi (fs.headD ByteArray.empty), fs.tail)
def lineRecs (x : ByteArray) : List RecT := if (fieldsV x).length = 0 then [] else [recV (fieldsV x)]
def recsOf (ls : List ByteArray) : List RecT := ls.flatMap lineRecs
/-- What a file says: its records, or the number of the first line that can't be, and the error. -/
def parseV (s : ByteArray) : List RecT × Nat × Int :=
  if (cutV s 10).all lineOk then (recsOf (cutV s 10), 0, 0) else ([], (cutV s 10).findIdx (fun x => !lineOk x) + 1, 20)

theorem recsOf_snoc (pre : List ByteArray) (x : ByteArray) : recsOf (pre ++ [x]) = recsOf pre ++ lineRecs x := by simp [recsOf]
theorem recsOf_len (pre : List ByteArray) : (recsOf pre).length ≤ pre.length := by
  induction pre with
  | nil => exact Nat.le_refl _
  | cons x pre ih =>
    have : (lineRecs x).length ≤ 1 := by unfold lineRecs; split <;> simp
    simp only [recsOf, List.flatMap_cons, List.length_append, List.length_cons] at *
    omega
theorem cuts_len (s : ByteArray) (b : Int) : ∀ k p a, (cuts s b k p a).length ≤ k + 1 := by
  intro k
  induction k with
  | zero => intro p a; simp [cuts]
  | succ k ih =>
    intro p a
    rw [cuts]
    split
    · have := ih (p + 1) (p + 1); simp; omega
    · have := ih (p + 1) a; omega
theorem cuts_size (s : ByteArray) (b : Int) : ∀ k p a, ∀ x ∈ cuts s b k p a, x.size ≤ s.size := by
  intro k
  induction k with
  | zero => intro p a x hx; simp [cuts] at hx; subst hx; rw [ByteArray.size_extract]; omega
  | succ k ih =>
    intro p a x hx
    rw [cuts] at hx
    split at hx
    · rcases List.mem_cons.1 hx with rfl | hx
      · rw [ByteArray.size_extract]; omega
      · exact ih _ _ x hx
    · exact ih _ _ x hx

/-- A line's fields are no longer than it. -/
theorem scan_sizes (s : ByteArray) : ∀ k p st out, (∀ x ∈ out, x.size ≤ s.size) → ∀ x ∈ close s (scan s k p st out), x.size ≤ s.size := by
  have hc : ∀ out st en, (∀ x ∈ out, x.size ≤ s.size) → ∀ x ∈ close s (out, st, en), x.size ≤ s.size := by
    intro out st en ho x hx
    unfold close at hx
    split at hx
    · cases hx
    · rcases List.mem_append.1 hx with hx | hx
      · exact ho x hx
      · obtain rfl := List.mem_singleton.1 hx
        have := trim_size (s.extract st en)
        rw [ByteArray.size_extract] at this
        show (trim (s.extract st en)).size ≤ _
        omega
  intro k
  induction k with
  | zero => intro p st out ho; exact hc out st s.size ho
  | succ k ih =>
    intro p st out ho
    rw [scan]
    split
    · exact hc out st p ho
    · split
      · refine ih _ _ _ (fun x hx => ?_)
        rcases List.mem_append.1 hx with hx | hx
        · exact ho x hx
        · obtain rfl := List.mem_singleton.1 hx
          have := trim_size (s.extract st p)
          rw [ByteArray.size_extract] at this
          omega
      · exact ih _ _ _ ho
theorem fields_sizes (s : ByteArray) : ∀ x ∈ fieldsV s, x.size ≤ s.size := scan_sizes s _ _ _ _ (fun _ h => by cases h)
theorem scan_len (s : ByteArray) : ∀ k p st out, (close s (scan s k p st out)).length ≤ out.length + k + 1 := by
  have hc : ∀ out st en, (close s (out, st, en)).length ≤ out.length + 1 := by
    intro out st en
    unfold close
    split
    · simp
    · simp
  intro k
  induction k with
  | zero => intro p st out; exact hc out st _
  | succ k ih =>
    intro p st out
    rw [scan]
    split
    · have := hc out st p; omega
    · split
      · have := ih (p + 1) (p + 1) (out ++ [trim (s.extract st p)]); simp at this; omega
      · have := ih (p + 1) st out; omega
theorem fields_len (s : ByteArray) : (fieldsV s).length ≤ s.size + 1 := by
  have := scan_len s s.size 0 0 []
  simp at this
  exact this
end Go.Proofs.YtlidgjkipbijlaaGreatDoor.lin
end

section
/- Lines and fields as plain lists of bytes. -/
set_option linter.unusedVariables false
set_option linter.unusedSimpArgs false
namespace Go.Proofs.YtlidgjkipbijlaaGreatDoor.lin
open Go.RowKit

def BA (l : List UInt8) : ByteArray := ⟨l.toArray⟩
theorem BA_list (s : ByteArray) : BA s.data.toList = s := rfl
theorem BA_data (l : List UInt8) : (BA l).data.toList = l := rfl
theorem BA_size (l : List UInt8) : (BA l).size = l.length := rfl
theorem size_list (s : ByteArray) : s.data.toList.length = s.size := Array.length_toList

/-- A list ahead of the first of lists. -/
def glue (x : List UInt8) : List (List UInt8) → List (List UInt8)
  | [] => [x]
  | h :: t => (x ++ h) :: t
/-- The parts of a list between a byte. -/
def cutL (b : UInt8) : List UInt8 → List (List UInt8)
  | [] => [[]]
  | x :: l => if x = b then [] :: cutL b l else glue [x] (cutL b l)

theorem glue_glue (x y : List UInt8) (L : List (List UInt8)) : glue x (glue y L) = glue (x ++ y) L := by
  cases L <;> simp [glue]
theorem cutL_ne (b : UInt8) (l : List UInt8) : cutL b l ≠ [] := by
  cases l with
  | nil => simp [cutL]
  | cons x l =>
    rw [cutL]; split
    · simp
    · cases cutL b l <;> simp [glue]
theorem glue_nil {L : List (List UInt8)} (h : L ≠ []) : glue [] L = L := by
  cases L with
  | nil => exact absurd rfl h
  | cons h t => rfl
theorem drop_cons (s : ByteArray) (p : Nat) (h : p < s.size) : s.data.toList.drop p = s[p]'h :: s.data.toList.drop (p + 1) := by
  rw [List.drop_eq_getElem_cons (by rw [size_list]; exact h)]
  rfl
theorem ext_list (s : ByteArray) (a p : Nat) : s.extract a p = BA ((s.data.toList.drop a).take (p - a)) := by
  apply ByteArray.ext
  show (s.extract a p).data = ((s.data.toList.drop a).take (p - a)).toArray
  rw [ByteArray.data_extract]
  apply Array.ext'
  rw [Array.toList_extract]
theorem take_snoc (s : ByteArray) (a p : Nat) (h : p < s.size) (ha : a ≤ p) : (s.data.toList.drop a).take (p + 1 - a) = (s.data.toList.drop a).take (p - a) ++ [s[p]'h] := by
  rw [show p + 1 - a = p - a + 1 from by omega, List.take_add_one]
  congr 1
  rw [List.getElem?_drop, show a + (p - a) = p from by omega, List.getElem?_eq_getElem (by rw [size_list]; exact h)]
  rfl

theorem cuts_list (s : ByteArray) (b : UInt8) : ∀ k p a, p + k = s.size → a ≤ p → cuts s (b.toNat : Int) k p a = (glue ((s.data.toList.drop a).take (p - a)) (cutL b (s.data.toList.drop p))).map BA := by
  intro k
  induction k with
  | zero =>
    intro p a hp ha
    rw [show s.data.toList.drop p = [] from List.drop_eq_nil_of_le (by rw [size_list]; omega)]
    show [s.extract a s.size] = [BA ((s.data.toList.drop a).take (p - a) ++ [])]
    rw [ext_list, List.append_nil, show p = s.size from by omega]
  | succ k ih =>
    intro p a hp ha
    have hlt : p < s.size := by omega
    rw [cuts, at8_eq s p hlt, drop_cons s p hlt, cutL]
    by_cases hb : s[p]'hlt = b
    · rw [if_pos (by rw [hb]), if_pos hb, ih (p + 1) (p + 1) (by omega) (Nat.le_refl _), ext_list, Nat.sub_self, List.take_zero, glue_nil (cutL_ne _ _)]
      simp [glue]
    · rw [if_neg (fun e => hb (UInt8.toNat_inj.1 (by omega))), if_neg hb, ih (p + 1) a (by omega) (by omega), take_snoc s a p hlt ha, glue_glue]
theorem cutV_list (s : ByteArray) (b : UInt8) : cutV s (b.toNat : Int) = (cutL b s.data.toList).map BA := by
  unfold cutV
  rw [cuts_list s b s.size 0 0 (by omega) (Nat.le_refl _), Nat.sub_self, List.take_zero, List.drop_zero, glue_nil (cutL_ne _ _)]

theorem cutL_one (b : UInt8) : ∀ (l x : List UInt8), cutL b l = [x] → x = l := by
  intro l
  induction l with
  | nil => intro x h; simpa [cutL] using h
  | cons z l ih =>
    intro x h
    rw [cutL] at h
    split at h
    · simp at h; exact absurd h.2 (cutL_ne _ _)
    · cases hc : cutL b l with
      | nil => exact absurd hc (cutL_ne _ _)
      | cons h0 t =>
        rw [hc] at h
        simp [glue] at h
        obtain ⟨rfl, rfl⟩ := h
        rw [ih h0 hc]

def blank (b : UInt8) : Bool := [32, 9].contains b
def trimL (l : List UInt8) : List UInt8 := Lib.trimS l [32, 9]
theorem trim_BA (l : List UInt8) : trim (BA l) = BA (trimL l) := rfl
theorem trimL_eq (l : List UInt8) : trimL l = ((l.reverse.dropWhile blank).reverse).dropWhile blank := rfl

theorem trimL_cons (x : UInt8) (l : List UInt8) (h : blank x = true) : trimL (x :: l) = trimL l := by
  rw [trimL_eq, trimL_eq, List.reverse_cons, List.dropWhile_append]
  split
  · rename_i h'
    rw [List.isEmpty_iff] at h'
    rw [h']
    simp [List.dropWhile, h]
  · rw [List.reverse_append]
    simp [List.dropWhile, h]
theorem trimL_snoc (x : UInt8) (l : List UInt8) (h : blank x = true) : trimL (l ++ [x]) = trimL l := by
  rw [trimL_eq, trimL_eq, List.reverse_append]
  simp [List.dropWhile, h]

theorem cutL_cons_not (b x : UInt8) (l : List UInt8) (h : x ≠ b) : cutL b (x :: l) = glue [x] (cutL b l) := by rw [cutL, if_neg h]
theorem cutL_snoc_not (b x : UInt8) (h : x ≠ b) (l : List UInt8) : ∃ A z, cutL b l = A ++ [z] ∧ cutL b (l ++ [x]) = A ++ [z ++ [x]] := by
  induction l with
  | nil => exact ⟨[], [], rfl, by simp [cutL, h, glue]⟩
  | cons y l ih =>
    obtain ⟨A, z, h1, h2⟩ := ih
    rw [List.cons_append, cutL, cutL, h1, h2]
    split
    · exact ⟨[] :: A, z, rfl, rfl⟩
    · cases A with
      | nil => exact ⟨[], y :: z, by simp [glue], by simp [glue]⟩
      | cons a A => exact ⟨(y :: a) :: A, z, by simp [glue], by simp [glue]⟩

theorem blank_not (x : UInt8) (h : blank x = true) : x ≠ 59 := by rintro rfl; exact absurd h (by decide)

theorem cut_left (l : List UInt8) : (cutL 59 (l.dropWhile blank)).map trimL = (cutL 59 l).map trimL := by
  induction l with
  | nil => rfl
  | cons x l ih =>
    rw [List.dropWhile_cons]
    split
    · rename_i h
      rw [ih, cutL_cons_not 59 x l (blank_not x h)]
      cases hc : cutL 59 l with
      | nil => exact absurd hc (cutL_ne _ _)
      | cons a t => simp [glue, trimL_cons x a h]
    · rfl
theorem cut_right (l : List UInt8) : (cutL 59 (l.dropWhile blank).reverse).map trimL = (cutL 59 l.reverse).map trimL := by
  induction l with
  | nil => rfl
  | cons x l ih =>
    rw [List.dropWhile_cons]
    split
    · rename_i h
      rw [ih, List.reverse_cons]
      obtain ⟨A, z, h1, h2⟩ := cutL_snoc_not 59 x (blank_not x h) l.reverse
      rw [h1, h2]
      simp [trimL_snoc x z h]
    · rfl
theorem cut_trim (l : List UInt8) : (cutL 59 (trimL l)).map trimL = (cutL 59 l).map trimL := by
  rw [trimL_eq, cut_left, cut_right, List.reverse_reverse]

theorem dw_id (m : List UInt8) (h : ∀ x, m.head? = some x → blank x = false) : m.dropWhile blank = m := by
  cases m with
  | nil => rfl
  | cons x m => rw [List.dropWhile_cons, if_neg (by rw [h x rfl]; simp)]
theorem dw_head (m : List UInt8) : ∀ x, (m.dropWhile blank).head? = some x → blank x = false := by
  induction m with
  | nil => intro x h; simp at h
  | cons y m ih =>
    intro x h
    rw [List.dropWhile_cons] at h
    split at h
    · exact ih x h
    · rename_i hb
      simp at h
      subst h
      simpa using hb
theorem dw_last (m : List UInt8) : ∀ x, (m.dropWhile blank).getLast? = some x → m.getLast? = some x := by
  induction m with
  | nil => intro x h; simp at h
  | cons y m ih =>
    intro x h
    rw [List.dropWhile_cons] at h
    split at h
    · have := ih x h
      rw [List.getLast?_cons, this]
      rfl
    · exact h
theorem trimL_idem (l : List UInt8) : trimL (trimL l) = trimL l := by
  rw [trimL_eq (trimL l), dw_id (trimL l).reverse, List.reverse_reverse, dw_id]
  · intro x h
    exact dw_head _ x h
  · intro x h
    rw [List.head?_reverse] at h
    have h2 := dw_last _ x (by rw [trimL_eq] at h; exact h)
    rw [List.getLast?_reverse] at h2
    exact dw_head _ x h2

/-- A line's fields. -/
def fieldsL (l : List UInt8) : List (List UInt8) :=
  if (cutL 59 (l.takeWhile (· ≠ 35))).map trimL = [[]] then [] else (cutL 59 (l.takeWhile (· ≠ 35))).map trimL
/-- The same, by the trimmed text. -/
theorem fieldsL_ref (l : List UInt8) : fieldsL l = if trimL (l.takeWhile (· ≠ 35)) = [] then [] else (cutL 59 (trimL (l.takeWhile (· ≠ 35)))).map trimL := by
  unfold fieldsL
  generalize l.takeWhile (· ≠ 35) = h
  by_cases ht : trimL h = []
  · rw [if_pos ht, if_pos]
    rw [← cut_trim, ht]
    rfl
  · rw [if_neg ht, if_neg, cut_trim]
    intro e
    rw [← cut_trim] at e
    apply ht
    cases hc : cutL 59 (trimL h) with
    | nil => exact absurd hc (cutL_ne _ _)
    | cons x t =>
      rw [hc] at e
      simp at e
      obtain ⟨e1, rfl⟩ := e
      rw [cutL_one 59 _ x hc, trimL_idem] at e1
      exact e1

theorem cutL_head (b : UInt8) (l : List UInt8) : (cutL b l).headD [] = l.takeWhile (· ≠ b) := by
  induction l with
  | nil => rfl
  | cons x l ih =>
    rw [cutL, List.takeWhile_cons]
    by_cases h : x = b
    · rw [if_pos h, if_neg (by simp [h])]; rfl
    · rw [if_neg h, if_pos (by simp [h]), ← ih]
      cases hc : cutL b l with
      | nil => exact absurd hc (cutL_ne _ _)
      | cons a t => rfl

/-- What scan and close tell, as lists. -/
theorem scan_list (s : ByteArray) : ∀ k p st out, p + k = s.size → st ≤ p →
    (scan s k p st out).1 ++ [trim (s.extract (scan s k p st out).2.1 (scan s k p st out).2.2)] = out ++ (glue ((s.data.toList.drop st).take (p - st)) (cutL 59 ((s.data.toList.drop p).takeWhile (· ≠ 35)))).map (fun l => BA (trimL l)) := by
  intro k
  induction k with
  | zero =>
    intro p st out hp hst
    rw [show s.data.toList.drop p = [] from List.drop_eq_nil_of_le (by rw [size_list]; omega)]
    show out ++ [trim (s.extract st s.size)] = out ++ [BA (trimL ((s.data.toList.drop st).take (p - st) ++ []))]
    rw [ext_list, List.append_nil, show p = s.size from by omega]
    rfl
  | succ k ih =>
    intro p st out hp hst
    have hlt : p < s.size := by omega
    rw [scan, at8_eq s p hlt, drop_cons s p hlt, List.takeWhile_cons]
    by_cases h35 : s[p]'hlt = 35
    · rw [if_pos (by rw [h35]; rfl), if_neg (by simp [h35])]
      show out ++ [trim (s.extract st p)] = out ++ [BA (trimL ((s.data.toList.drop st).take (p - st) ++ []))]
      rw [ext_list, List.append_nil]
      rfl
    · rw [if_neg (fun e => h35 (UInt8.toNat_inj.1 (by have : (35 : UInt8).toNat = 35 := rfl; omega))), if_pos (c := decide (s[p]'hlt ≠ 35) = true) (by simp [h35]), cutL]
      by_cases h59 : s[p]'hlt = 59
      · rw [if_pos (c := ((s[p]'hlt).toNat : Int) = 59) (by rw [h59]; rfl), if_pos h59, ih (p + 1) (p + 1) _ (by omega) (Nat.le_refl _), ext_list, Nat.sub_self, List.take_zero, glue_nil (cutL_ne _ _)]
        simp [glue, trim_BA]
      · rw [if_neg (fun e => h59 (UInt8.toNat_inj.1 (by have : (59 : UInt8).toNat = 59 := rfl; omega))), if_neg h59, ih (p + 1) st out (by omega) (by omega), take_snoc s st p hlt hst, glue_glue]

theorem fieldsV_list (s : ByteArray) : fieldsV s = (fieldsL s.data.toList).map BA := by
  have h := scan_list s s.size 0 0 [] (by omega) (Nat.le_refl _)
  rw [Nat.sub_self, List.take_zero, List.drop_zero, glue_nil (cutL_ne _ _), List.nil_append] at h
  unfold fieldsV close fieldsL
  generalize scan s s.size 0 0 [] = X at *
  have h' : X.1 ++ [trim (s.extract X.2.1 X.2.2)] = ((cutL 59 (s.data.toList.takeWhile (· ≠ 35))).map trimL).map BA := by rw [h, List.map_map]; rfl
  generalize (cutL 59 (s.data.toList.takeWhile (· ≠ 35))).map trimL = F at *
  generalize trim (s.extract X.2.1 X.2.2) = t at *
  by_cases hF : F = [[]]
  · rw [if_pos hF]
    rw [hF] at h'
    have h1 : X.1.length = 0 := by have := congrArg List.length h'; simp at this; simp [this]
    have h2 : t = BA [] := by rw [List.length_eq_zero_iff.1 h1] at h'; simpa using h'
    rw [if_pos ⟨h1, by rw [h2]; rfl⟩]
    rfl
  · rw [if_neg hF, if_neg, h']
    rintro ⟨h1, h2⟩
    apply hF
    rw [List.length_eq_zero_iff.1 h1] at h'
    cases F with
    | nil => simp at h'
    | cons a F =>
      simp at h'
      obtain ⟨rfl, rfl⟩ := h'
      rw [BA_size] at h2
      rw [List.length_eq_zero_iff.1 h2]
end Go.Proofs.YtlidgjkipbijlaaGreatDoor.lin
end

section
/- strings.SplitSeq at the separator of one newline: its closure gives a text's lines, in their order, and stores into the one captured cell alone. -/
set_option linter.unusedVariables false
set_option linter.unusedSimpArgs false
namespace Go.Proofs.YtlidgjkipbijlaaGreatDoor.lin
open Go.RowKit Go.Shelf
attribute [local go_sem] Oper.semAt_some

theorem wide_depth (n : Nat) : Fence.wide.depth.isSome = true → 1 ≤ n := fun h => by simp [Fence.wide] at h

/-- The three captured variables of the closure: the text left, the separator, what is kept of it. -/
structure Caps (W : World) (c : Nat) (s : ByteArray) : Prop where
  text : Boxed W c 9 (.string s)
  sep : Boxed W (c + 1) 9 (.string ⟨#[10]⟩)
  save : Boxed W (c + 2) 3 (.int .i64 0)

theorem Caps.keep {W W' : World} {c hi : Nat} {s : ByteArray} (h : Caps W c s) (hh : c + 3 ≤ hi) (k : Keep c hi W W') : Caps W' c s :=
  ⟨(k c (by omega) (by omega)).trans h.text, (k (c + 1) (by omega) (by omega)).trans h.sep, (k (c + 2) (by omega) (by omega)).trans h.save⟩

theorem SplitSeq_any (s : ByteArray) (w : World) :
    Calls Tryz.prog 95 #[.string s, .string ⟨#[10]⟩] w fun e w' => e = .returned (.func (.func 136) #[] #[.pointer (some ⟨w.heap.size + 1, 0, none⟩), .pointer (some ⟨w.heap.size, 0, none⟩), .pointer (some ⟨w.heap.size + 2, 0, none⟩)]) ∧
      w' = ((w.alloc (.cells #[.string s] 9)).alloc (.cells #[.string ⟨#[10]⟩] 9)).alloc (.cells #[.int .i64 0] 3) := by
  have SP : Calls Tryz.prog 116 #[.string s, .string ⟨#[10]⟩, .int .i64 0] w fun e w' => e = .returned (.func (.func 136) #[] #[.pointer (some ⟨w.heap.size + 1, 0, none⟩), .pointer (some ⟨w.heap.size, 0, none⟩), .pointer (some ⟨w.heap.size + 2, 0, none⟩)]) ∧
      w' = ((w.alloc (.cells #[.string s] 9)).alloc (.cells #[.string ⟨#[10]⟩] 9)).alloc (.cells #[.int .i64 0] 3) := by
    go_enter Tryz.func116, Tryz.ntmps116
    go_wp2
    go_ret
    exact ⟨rfl, rfl⟩
  go_enter Tryz.func95, Tryz.ntmps95
  go_wp2_with (go_at_call 116; refine SP.mono ?_; rintro e w' ⟨rfl, rfl⟩)
  go_ret
  exact ⟨rfl, rfl⟩

set_option maxHeartbeats 1000000 in
theorem split_gives (n c : Nat) (s : ByteArray) (w : World) (hs : s.size ≤ 1099511627776) (hcap : Caps w c s) :
    Gives n Tryz.prog 136 #[.pointer (some ⟨c + 1, 0, none⟩), .pointer (some ⟨c, 0, none⟩), .pointer (some ⟨c + 2, 0, none⟩)] (fun x => #[.string x]) (cutV s 10) c c w.heap.size w := by
  intro l J Jx W hW hJ hY h0
  have hlt := hcap.save.lt
  have hcW : Caps W c s := ⟨(hW.block c (by omega)).trans hcap.text, (hW.block (c + 1) (by omega)).trans hcap.sep, (hW.block (c + 2) hlt).trans hcap.save⟩
  refine callsIn_of_wp Tryz.func136 rfl trivial ?_ rfl
  simp only [Tryz.ntmps136, List.size_toArray, List.length_cons, List.length_nil, Nat.reduceAdd, Nat.reduceSub, Array.replicate_succ, Array.replicate_zero, List.push_toArray, List.append_toArray, List.nil_append, List.cons_append]
  have c1 := hcW.sep.cell
  gi_wp2
  clear c1
  gi_loopg [7] s.size (fun k v wr => ∃ (a : Nat) (pre : List ByteArray), k = s.size - a ∧ a ≤ s.size ∧ Hid (pre ++ cuts s 10 (s.size - a) a a = cutV s 10) ∧ Caps wr c (s.extract a s.size) ∧ J pre wr)
  case atStart => exact ⟨0, [], by omega, Nat.zero_le _, rfl, by rw [show s.extract 0 s.size = s from by simp]; exact hcW, h0⟩
  case round =>
    obtain ⟨a, pre, hgk, ha, HX, hcr, hj⟩ := hrel
    have c0 := hcr.text.cell
    have c1 := hcr.sep.cell
    have c2 := hcr.save.cell
    have IX := Tryz.strings_Index_one (s.extract a s.size) 10 wr
    rcases (show Lib.indexByte (s.extract a s.size).data.toList 10 = -1 ∨ ∃ o : Nat, Lib.indexByte (s.extract a s.size).data.toList 10 = o from by
      have := Lib.indexByte_ge (s.extract a s.size).data.toList 10
      rcases (show Lib.indexByte (s.extract a s.size).data.toList 10 = -1 ∨ 0 ≤ Lib.indexByte (s.extract a s.size).data.toList 10 from by omega) with h | h
      · exact .inl h
      · exact .inr ⟨_, (Int.toNat_of_nonneg h).symm⟩) with hi | ⟨o, hi⟩
    · have hr := rest_none s a ha hi
      rw [hi] at IX
      have HX2 : cutV s 10 = pre ++ [s.extract a s.size] := by rw [← HX.out, hr]
      obtain ⟨fn, tmps, assign, body, hy, hR⟩ := hY pre (s.extract a s.size) [] wr HX2 hj
      clear HX hr hi
      have HX3 : Hid (cutV s 10 = pre ++ [s.extract a s.size]) := HX2
      clear HX2
      generalize s.extract a s.size = R at *
      gi_wp2
      refine ⟨trivial, wide_depth _, (callsIn_wide.2 IX).mono ?_⟩
      rintro e w' ⟨rfl, rfl⟩
      gi_wp2
      refine ⟨wide_depth _, hR.mono ?_⟩
      rintro e W3 (⟨rfl, hJ3, hk3⟩ | ⟨rfl, hJx3⟩)
      · gi_wp2
        go_end0
        exact ⟨⟨_, rfl⟩, .inl (by rw [HX3.out]; exact hJ3)⟩
      · gi_wp2
        go_end0
        exact ⟨⟨_, rfl⟩, .inr ⟨_, hJx3⟩⟩
    · obtain ⟨hao, hr⟩ := rest_some s a o ha hi
      rw [hi] at IX
      have HX2 : cutV s 10 = pre ++ s.extract a (a + o) :: cuts s 10 (s.size - (a + o + 1)) (a + o + 1) (a + o + 1) := by rw [← HX.out, hr]
      obtain ⟨fn, tmps, assign, body, hy, hR⟩ := hY pre (s.extract a (a + o)) _ wr HX2 hj
      clear HX hr hi
      have HX3 : Hid (cutV s 10 = pre ++ s.extract a (a + o) :: cuts s 10 (s.size - (a + o + 1)) (a + o + 1) (a + o + 1)) := HX2
      clear HX2
      have e1 := ext_first s a o (by omega)
      have e2 := ext_last s a (o + 1) ha
      have hz : (s.extract a s.size).size = s.size - a := by rw [ByteArray.size_extract]; omega
      generalize s.extract a s.size = R at *
      generalize s.extract a (a + o) = X at *
      gi_wp2
      refine ⟨trivial, wide_depth _, (callsIn_wide.2 IX).mono ?_⟩
      rintro e w' ⟨rfl, rfl⟩
      gi_wp2
      refine ⟨wide_depth _, hR.mono ?_⟩
      rintro e W3 (⟨rfl, hJ3, hk3⟩ | ⟨rfl, hJx3⟩)
      · have hc3 := hcr.keep hlt hk3
        have d0 := hc3.text.cell
        have d1 := hc3.sep.cell
        have d2 := hc3.save.cell
        have f0 := hc3.text.frozen
        gi_wp2
        gi_roundg (s.size - (a + (o + 1)))
        case measure => omega
        case rel => exact ⟨a + (o + 1), pre ++ [X], rfl, by omega, by rw [HX3.out]; simp [Hid, Nat.add_assoc], ⟨by rw [← e2, hz]; exact hc3.text.set _, hc3.sep.other (by omega) _, hc3.save.other (by omega) _⟩, hJ _ _ _ hJ3 (grownBy_setCell' _ _ _)⟩
      · gi_wp2
        refine bodyPost_ret (results_none rfl _ _ _) rfl ?_
        exact ⟨⟨_, rfl⟩, .inr ⟨_, hJx3⟩⟩
end Go.Proofs.YtlidgjkipbijlaaGreatDoor.lin
end
