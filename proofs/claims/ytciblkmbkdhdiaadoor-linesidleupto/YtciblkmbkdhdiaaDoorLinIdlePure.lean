/- A file of remarks, records, and a record with a remark behind it. -/
import Derived.Test.YtciblkmbkdhdiaaDoorLinBackPure2
set_option linter.unusedVariables false
set_option linter.unusedSimpArgs false
namespace Go.Proofs.YtciblkmbkdhdiaaDoor.lin

theorem takeWhile_to (a R : List UInt8) (h : 35 ∉ a) : (a ++ 35 :: R).takeWhile (· ≠ 35) = a := by
  induction a with
  | nil => rfl
  | cons x a ih =>
    rw [List.cons_append, List.takeWhile_cons, if_pos (by simp; intro e; exact h (by simp [e])), ih (fun hx => h (by simp [hx]))]
theorem fields_remark (a R : List UInt8) (h : 35 ∉ a) : fieldsV (BA (a ++ 35 :: R)) = fieldsV (BA a) := by
  rw [fieldsV_list, fieldsV_list, BA_data, BA_data]
  unfold fieldsL
  rw [takeWhile_to a R h, takeWhile_all a h]
theorem line_remark (a R : List UInt8) (h : 35 ∉ a) : lineOk (BA (a ++ 35 :: R)) = lineOk (BA a) ∧ lineRecs (BA (a ++ 35 :: R)) = lineRecs (BA a) := by
  unfold lineOk lineRecs
  rw [fields_remark a R h]
  exact ⟨rfl, rfl⟩
/-- The record behind them. -/
def lastRec : RecT := (65, 65, [BA [120]])
theorem line_last : lineOk (BA [48, 48, 52, 49, 32, 59, 32, 120, 32]) = true ∧ lineRecs (BA [48, 48, 52, 49, 32, 59, 32, 120, 32]) = [lastRec] := by decide +kernel
theorem line_blank : lineOk (BA [32, 9]) = true ∧ lineRecs (BA [32, 9]) = [] := by decide +kernel
theorem parse_idle (rs : List RecT) (h : ∀ r ∈ rs, printB r.1 r.2.1 r.2.2 = true) (R : List UInt8) (hR : 10 ∉ R) (T : ByteArray)
    (hT : T.data.toList = [35] ++ R ++ [10, 32, 9, 10] ++ rs.flatMap recText ++ [48, 48, 52, 49, 32, 59, 32, 120, 32, 35] ++ R) : parseV T = (rs ++ [lastRec], 0, 0) := by
  have hc : cutV T 10 = BA ([] ++ 35 :: R) :: BA [32, 9] :: ((rs.map lineText).map BA ++ [BA ([48, 48, 52, 49, 32, 59, 32, 120, 32] ++ 35 :: R)]) := by
    have h1 := cutV_list T 10
    have e : T.data.toList = ([] ++ 35 :: R) ++ 10 :: ([32, 9] ++ 10 :: (rs.flatMap recText ++ ([48, 48, 52, 49, 32, 59, 32, 120, 32] ++ 35 :: R))) := by rw [hT]; simp
    have n1 : (10 : UInt8) ∉ ([] ++ 35 :: R : List UInt8) := by simp [hR]
    have n2 : (10 : UInt8) ∉ ([32, 9] : List UInt8) := by decide
    have n3 : (10 : UInt8) ∉ ([48, 48, 52, 49, 32, 59, 32, 120, 32] ++ 35 :: R : List UInt8) := by simp [hR]
    rw [e, cutL_append, cutL_append, cutL_none 10 _ n1, cutL_none 10 _ n2, cut_text rs h, cutL_none 10 _ n3] at h1
    rw [show cutV T 10 = cutV T ((10 : UInt8).toNat : Int) from rfl, h1]
    simp
  have k1 := line_remark [] R (by simp)
  have k2 := line_remark [48, 48, 52, 49, 32, 59, 32, 120, 32] R (by decide)
  rw [line_none.1, line_none.2] at k1
  rw [line_last.1, line_last.2] at k2
  rw [parseV_all]
  · rw [hc]
    show (recsOf (BA ([] ++ 35 :: R) :: BA [32, 9] :: ((rs.map lineText).map BA ++ [BA ([48, 48, 52, 49, 32, 59, 32, 120, 32] ++ 35 :: R)])), 0, 0) = _
    have e1 : ∀ x ls, recsOf (x :: ls) = lineRecs x ++ recsOf ls := fun x ls => by simp [recsOf]
    rw [e1, e1, recsOf_snoc, recs_lines rs h, k1.2, k2.2, line_blank.2]
    rfl
  · rw [hc, List.all_cons, List.all_cons, List.all_append, k1.1, line_blank.1]
    simp only [Bool.true_and, Bool.and_eq_true]
    refine ⟨List.all_eq_true.2 ?_, by rw [List.all_cons, k2.1]; rfl⟩
    intro x hx
    obtain ⟨l, hl, rfl⟩ := List.mem_map.1 hx
    obtain ⟨r, hr, rfl⟩ := List.mem_map.1 hl
    exact (line_rec r (h r hr)).1
theorem no_ten (s : ByteArray) (h : ∀ q, q < s.size → ¬ at8 s q = 10) : 10 ∉ s.data.toList := by
  intro hx
  obtain ⟨i, hi, e⟩ := List.mem_iff_getElem.1 hx
  have hs : i < s.size := by rw [← size_list]; exact hi
  refine h i hs ?_
  rw [at8_eq s i hs]
  have : (s[i]'hs) = 10 := by rw [← e]; rfl
  rw [this]
  rfl
end Go.Proofs.YtciblkmbkdhdiaaDoor.lin
