/- Records in memory: what lines.Parse answers, as plain lists; how they lie. -/
import Derived.Test.YtnpnmhjhohhnjaaDoorLinRange
import Derived.Test.YtnpnmhjhohhnjaaDoorLinCut
import Derived.Test.YtnpnmhjhohhnjaaDoorLinFields
import Derived.Test.YtnpnmhjhohhnjaaDoorLinRecord
set_option linter.unusedVariables false
set_option linter.unusedSimpArgs false
namespace Go.Proofs.YtnpnmhjhohhnjaaDoor.lin
open Go.RowKit

/-- Strings fs lie in one block of strings from base on, and v is the slice of them. -/
def FAt (w : World) (base : Nat) (v : Value) (fs : List ByteArray) : Prop :=
  ∃ g off cap cur, v = .slice (some ⟨g, off, none⟩) fs.length cap ∧ base ≤ g ∧ w.heap[g]? = some (.cells cur 9 (0, 0)) ∧ ∀ j, j < fs.length → cur[off + j]? = some (.string (fs.getD j ByteArray.empty))
theorem FAt.lower {w : World} {base base2 : Nat} {v : Value} {fs : List ByteArray} (h : FAt w base2 v fs) (hb : base ≤ base2) : FAt w base v fs := by
  obtain ⟨g, off, cap, cur, rfl, hg, rest⟩ := h
  exact ⟨g, off, cap, cur, rfl, by omega, rest⟩
theorem FAt.kept {A B : World} {base : Nat} {v : Value} {fs : List ByteArray} (h : FAt A base v fs) (hb : Below A.heap.size A B) : FAt B base v fs := by
  obtain ⟨g, off, cap, cur, rfl, hg, hgg, hc⟩ := h
  exact ⟨g, off, cap, cur, rfl, hg, (hb.block g (Array.getElem?_eq_some_iff.1 hgg).1).trans hgg, hc⟩
theorem own_typed {w : World} {base e size n : Nat} {v : Value} {xs : List Value} (ho : w.ownsRow base e size v n xs) : ∀ k, v.ownBlock = some k → ∃ cur, w.heap[k]? = some (.cells cur e (0, 0)) := by
  intro k e
  rcases ho.2 with hn | ⟨g', cap', cur', hv', h1, h2, _⟩
  · rw [hn.1] at e; cases e
  · rw [hv'] at e; cases e; exact ⟨_, h2⟩
/-- A record: its bounds, its fields' value, its fields. -/
structure RR where
  lo : Int
  hi : Int
  fv : Value
  fs : List ByteArray
abbrev RecT := Int × Int × List ByteArray
def RR.plain (q : RR) : RecT := (q.lo, q.hi, q.fs)
def flatR (L : List RR) : List Value := L.flatMap fun q => [.int .i64 q.lo, .int .i64 q.hi, q.fv]
theorem flatR_append (L M : List RR) : flatR (L ++ M) = flatR L ++ flatR M := by simp [flatR]
theorem flatR_length (L : List RR) : (flatR L).length = L.length * 3 := by
  induction L with
  | nil => rfl
  | cons q L ih => simp [flatR] at *; omega

/-- A line says nothing, or a record. -/
def lineOk (x : ByteArray) : Bool := (fieldsV x).length == 0 || recB (fieldsV x)
def recV (fs : List ByteArray) : RecT := (boundsLo (fs.headD ByteArray.empty), boundsHi (fs.headD ByteArray.empty), fs.tail)
def lineRecs (x : ByteArray) : List RecT := if (fieldsV x).length = 0 then [] else [recV (fieldsV x)]
def recsOf (ls : List ByteArray) : List RecT := ls.flatMap lineRecs
/-- What a file says: its records, or the number of the first line that can't be, and the error. -/
def parseV (s : ByteArray) : List RecT × Nat × Int :=
  if (cutV s 10).all lineOk then (recsOf (cutV s 10), 0, 0) else ([], (cutV s 10).findIdx (fun x => !lineOk x) + 1, 20)

theorem recsOf_snoc (pre : List ByteArray) (x : ByteArray) : recsOf (pre ++ [x]) = recsOf pre ++ lineRecs x := by simp [recsOf]
theorem recsOf_len (pre : List ByteArray) : (recsOf pre).length ≤ pre.length := by
  induction pre with
  | nil => exact Nat.le_refl _
  | cons x pre ih =>
    have : (lineRecs x).length ≤ 1 := by unfold lineRecs; split <;> simp
    simp only [recsOf, List.flatMap_cons, List.length_append, List.length_cons] at *
    omega
theorem cuts_len (s : ByteArray) (b : Int) : ∀ k p a, (cuts s b k p a).length ≤ k + 1 := by
  intro k
  induction k with
  | zero => intro p a; simp [cuts]
  | succ k ih =>
    intro p a
    rw [cuts]
    split
    · have := ih (p + 1) (p + 1); simp; omega
    · have := ih (p + 1) a; omega
theorem cuts_size (s : ByteArray) (b : Int) : ∀ k p a, ∀ x ∈ cuts s b k p a, x.size ≤ s.size := by
  intro k
  induction k with
  | zero => intro p a x hx; simp [cuts] at hx; subst hx; rw [ByteArray.size_extract]; omega
  | succ k ih =>
    intro p a x hx
    rw [cuts] at hx
    split at hx
    · rcases List.mem_cons.1 hx with rfl | hx
      · rw [ByteArray.size_extract]; omega
      · exact ih _ _ x hx
    · exact ih _ _ x hx

/-- A line's fields are no longer than it. -/
theorem scan_sizes (s : ByteArray) : ∀ k p st out, (∀ x ∈ out, x.size ≤ s.size) → ∀ x ∈ close s (scan s k p st out), x.size ≤ s.size := by
  have hc : ∀ out st en, (∀ x ∈ out, x.size ≤ s.size) → ∀ x ∈ close s (out, st, en), x.size ≤ s.size := by
    intro out st en ho x hx
    unfold close at hx
    split at hx
    · cases hx
    · rcases List.mem_append.1 hx with hx | hx
      · exact ho x hx
      · obtain rfl := List.mem_singleton.1 hx
        have := trim_size (s.extract st en)
        rw [ByteArray.size_extract] at this
        show (trim (s.extract st en)).size ≤ _
        omega
  intro k
  induction k with
  | zero => intro p st out ho; exact hc out st s.size ho
  | succ k ih =>
    intro p st out ho
    rw [scan]
    split
    · exact hc out st p ho
    · split
      · refine ih _ _ _ (fun x hx => ?_)
        rcases List.mem_append.1 hx with hx | hx
        · exact ho x hx
        · obtain rfl := List.mem_singleton.1 hx
          have := trim_size (s.extract st p)
          rw [ByteArray.size_extract] at this
          omega
      · exact ih _ _ _ ho
theorem fields_sizes (s : ByteArray) : ∀ x ∈ fieldsV s, x.size ≤ s.size := scan_sizes s _ _ _ _ (fun _ h => by cases h)
theorem scan_len (s : ByteArray) : ∀ k p st out, (close s (scan s k p st out)).length ≤ out.length + k + 1 := by
  have hc : ∀ out st en, (close s (out, st, en)).length ≤ out.length + 1 := by
    intro out st en
    unfold close
    split
    · simp
    · simp
  intro k
  induction k with
  | zero => intro p st out; exact hc out st _
  | succ k ih =>
    intro p st out
    rw [scan]
    split
    · have := hc out st p; omega
    · split
      · have := ih (p + 1) (p + 1) (out ++ [trim (s.extract st p)]); simp at this; omega
      · have := ih (p + 1) st out; omega
theorem fields_len (s : ByteArray) : (fieldsV s).length ≤ s.size + 1 := by
  have := scan_len s s.size 0 0 []
  simp at this
  exact this
end Go.Proofs.YtnpnmhjhohhnjaaDoor.lin
