/- A file that was printed is read as it was: its lines and fields. -/
import Derived.Test.YtciblkmbkdhdiaaDoorLinBackPure
import Derived.Test.YtciblkmbkdhdiaaDoorLinesApart
import Derived.Test.YtciblkmbkdhdiaaDoorLinRefTrim
set_option linter.unusedVariables false
set_option linter.unusedSimpArgs false
namespace Go.Proofs.YtciblkmbkdhdiaaDoor.lin
open Go.RowKit

def lineText (r : RecT) : List UInt8 := headText r.1 r.2.1 ++ tailText r.2.2
theorem okF_facts (f : ByteArray) (h : okF f = true) : (59 ∉ f.data.toList) ∧ (35 ∉ f.data.toList) ∧ (10 ∉ f.data.toList) ∧ trimL f.data.toList = f.data.toList := by
  unfold okF at h
  rw [Bool.and_eq_true] at h
  obtain ⟨h1, h2⟩ := h
  have hb : badB f.data.toList = false := by simpa using h1
  unfold badB at hb
  rw [List.any_eq_false] at hb
  have ht : trim f = f := of_decide_eq_true h2
  refine ⟨fun hx => ?_, fun hx => ?_, fun hx => ?_, ?_⟩
  · exact hb 59 hx (by decide)
  · exact hb 35 hx (by decide)
  · exact hb 10 hx (by decide)
  · have := congrArg (fun b : ByteArray => b.data.toList) ht
    exact this
theorem trimL_all (l : List UInt8) (h : ∀ x ∈ l, blank x = false) : trimL l = l :=
  trimL_self l (fun x hx => h x (List.mem_of_mem_head? hx)) (fun x hx => h x (List.mem_of_mem_getLast? hx))
theorem head_fine (lo hi : Int) : ∀ x ∈ headText lo hi, x ≠ 59 ∧ x ≠ 35 ∧ x ≠ 10 ∧ blank x = false := by
  intro x hx
  unfold headText at hx
  rcases List.mem_append.1 hx with hx | hx
  · exact (point_fine _ x hx).2
  · split at hx
    · cases hx
    · rcases List.mem_append.1 hx with hx | hx
      · simp at hx
        subst hx
        decide
      · exact (point_fine _ x hx).2
theorem tail_not (b : UInt8) (hb : b ≠ 32) (hb2 : b ≠ 59) : ∀ fs : List ByteArray, (∀ f ∈ fs, b ∉ f.data.toList) → b ∉ tailText fs := by
  intro fs h hx
  unfold tailText at hx
  obtain ⟨f, hf, hx⟩ := List.mem_flatMap.1 hx
  rcases List.mem_append.1 hx with hx | hx
  · simp at hx
    rcases hx with rfl | rfl | rfl
    · exact hb rfl
    · exact hb2 rfl
    · exact hb rfl
  · exact h f hf hx
theorem cut_fields : ∀ (fs : List ByteArray) (h : List UInt8), 59 ∉ h → (∀ f ∈ fs, 59 ∉ f.data.toList) → (cutL 59 (h ++ tailText fs)).map trimL = trimL h :: fs.map (fun f => trimL f.data.toList)
  | [], h, hh, _ => by
    show (cutL 59 (h ++ [])).map trimL = _
    rw [List.append_nil, cutL_none 59 h hh]
    rfl
  | f :: fs, h, hh, hf => by
    have e : h ++ tailText (f :: fs) = (h ++ [32]) ++ 59 :: ((32 :: f.data.toList) ++ tailText fs) := by simp [tailText]
    have hn : 59 ∉ h ++ [32] := by
      intro hx
      rcases List.mem_append.1 hx with hx | hx
      · exact hh hx
      · simp at hx
    have hn2 : 59 ∉ 32 :: f.data.toList := by
      intro hx
      rcases List.mem_cons.1 hx with hx | hx
      · cases hx
      · exact hf f (by simp) hx
    rw [e, cutL_append, cutL_none 59 _ hn, List.map_append, cut_fields fs (32 :: f.data.toList) hn2 (fun g hg => hf g (by simp [hg])), trimL_cons 32 _ (by decide)]
    show [trimL (h ++ [32])] ++ _ = _
    rw [trimL_snoc 32 h (by decide)]
    rfl
theorem takeWhile_all (l : List UInt8) (h : 35 ∉ l) : l.takeWhile (· ≠ 35) = l := by
  induction l with
  | nil => rfl
  | cons x l ih =>
    rw [List.takeWhile_cons, if_pos (by simp; intro e; exact h (by simp [e])), ih (fun hx => h (by simp [hx]))]
theorem BA_map (fs : List ByteArray) : (fs.map (fun f => f.data.toList)).map BA = fs := by
  rw [List.map_map]
  conv => rhs; rw [← List.map_id fs]
  rfl
theorem fields_line (r : RecT) (h : printB r.1 r.2.1 r.2.2 = true) : fieldsV (BA (lineText r)) = BA (headText r.1 r.2.1) :: r.2.2 := by
  have hall : ∀ f ∈ r.2.2, okF f = true := by
    unfold printB at h
    rw [Bool.and_eq_true] at h
    exact List.all_eq_true.1 h.2
  obtain ⟨_, _, _, h4⟩ := printB_bounds h
  have n35 : 35 ∉ lineText r := by
    intro hx
    rcases List.mem_append.1 hx with hx | hx
    · exact (head_fine _ _ 35 hx).2.1 rfl
    · exact tail_not 35 (by decide) (by decide) r.2.2 (fun f hf => (okF_facts f (hall f hf)).2.1) hx
  have hc := cut_fields r.2.2 (headText r.1 r.2.1) (fun hx => (head_fine _ _ 59 hx).1 rfl) (fun f hf => (okF_facts f (hall f hf)).1)
  have hm : r.2.2.map (fun f => trimL f.data.toList) = r.2.2.map (fun f => f.data.toList) := List.map_congr_left (fun f hf => (okF_facts f (hall f hf)).2.2.2)
  rw [trimL_all _ (fun x hx => (head_fine _ _ x hx).2.2.2), hm] at hc
  rw [fieldsV_list, BA_data]
  unfold fieldsL
  rw [takeWhile_all _ n35]
  unfold lineText
  rw [hc, if_neg]
  · rw [List.map_cons, BA_map]
  · intro e
    have e2 := congrArg List.length e
    rw [List.length_cons, List.length_map] at e2
    have e3 : r.2.2.length + 1 = 1 := e2
    omega
theorem line_rec (r : RecT) (h : printB r.1 r.2.1 r.2.2 = true) : lineOk (BA (lineText r)) = true ∧ lineRecs (BA (lineText r)) = [r] := by
  obtain ⟨h1, h2, h3, h4⟩ := printB_bounds h
  obtain ⟨k1, k2, k3⟩ := bounds_head r.1 r.2.1 h1 h2 h3
  constructor
  · unfold lineOk
    rw [fields_line r h, recB_cons, k1, show decide (1 ≤ r.2.2.length) = true from decide_eq_true h4]
    rfl
  · unfold lineRecs
    rw [fields_line r h, if_neg (by simp)]
    show [(boundsLo (BA (headText r.1 r.2.1)), boundsHi (BA (headText r.1 r.2.1)), r.2.2)] = [r]
    rw [k2, k3]
theorem cut_text : ∀ rs : List RecT, (∀ r ∈ rs, printB r.1 r.2.1 r.2.2 = true) → ∀ z : List UInt8, cutL 10 (rs.flatMap recText ++ z) = rs.map lineText ++ cutL 10 z
  | [], _, z => rfl
  | r :: rs, h, z => by
    have hr := h r (by simp)
    have hall : ∀ f ∈ r.2.2, okF f = true := by
      unfold printB at hr
      rw [Bool.and_eq_true] at hr
      exact List.all_eq_true.1 hr.2
    have n10 : 10 ∉ lineText r := by
      intro hx
      rcases List.mem_append.1 hx with hx | hx
      · exact (head_fine _ _ 10 hx).2.2.1 rfl
      · exact tail_not 10 (by decide) (by decide) r.2.2 (fun f hf => (okF_facts f (hall f hf)).2.2.1) hx
    have e : (r :: rs).flatMap recText ++ z = lineText r ++ 10 :: (rs.flatMap recText ++ z) := by simp [recText, lineText]
    rw [e, cutL_append, cutL_none 10 _ n10, cut_text rs (fun q hq => h q (by simp [hq])) z]
    rfl
theorem line_none : lineOk (BA []) = true ∧ lineRecs (BA []) = [] := by decide +kernel
theorem recs_lines (rs : List RecT) (h : ∀ r ∈ rs, printB r.1 r.2.1 r.2.2 = true) : recsOf ((rs.map lineText).map BA) = rs := by
  induction rs with
  | nil => rfl
  | cons r rs ih =>
    have h1 := (line_rec r (h r (by simp))).2
    have h2 := ih (fun q hq => h q (by simp [hq]))
    simp only [recsOf, List.map_cons, List.flatMap_cons] at *
    rw [h1, h2]
    rfl
theorem parse_back (rs : List RecT) (h : ∀ r ∈ rs, printB r.1 r.2.1 r.2.2 = true) : parseV (BA (rs.flatMap recText)) = (rs, 0, 0) := by
  have hc : cutV (BA (rs.flatMap recText)) 10 = (rs.map lineText).map BA ++ [BA []] := by
    have h1 := cutV_list (BA (rs.flatMap recText)) 10
    rw [BA_data, ← List.append_nil (rs.flatMap recText), cut_text rs h []] at h1
    rw [List.append_nil] at h1
    rw [show cutV (BA (rs.flatMap recText)) 10 = cutV (BA (rs.flatMap recText)) ((10 : UInt8).toNat : Int) from rfl, h1, List.map_append]
    rfl
  rw [parseV_all]
  · rw [hc]
    show (recsOf (((rs.map lineText).map BA) ++ [BA []]), 0, 0) = _
    rw [recsOf_snoc, recs_lines rs h, line_none.2, List.append_nil]
  · rw [hc, List.all_append, Bool.and_eq_true]
    refine ⟨List.all_eq_true.2 ?_, by simp [line_none.1]⟩
    intro x hx
    obtain ⟨l, hl, rfl⟩ := List.mem_map.1 hx
    obtain ⟨r, hr, rfl⟩ := List.mem_map.1 hl
    exact (line_rec r (h r hr)).1
end Go.Proofs.YtciblkmbkdhdiaaDoor.lin
