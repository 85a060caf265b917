/- The document's way through a template and the program's are one. -/
import Derived.Test.YtfnndnlhdfjggaaEdtTm
import Derived.Test.YtfnndnlhdfjggaaEdtRGroup
set_option linter.unusedVariables false
namespace Go.Proofs.Ytfnndnlhdfjggaa.edt

theorem dgK_all (d : List Int) (h : 1 ≤ d.length) : dgK d d.length = (d.all dg && decide (d.length ≤ 3)) := by
  unfold dgK
  rw [List.take_of_length_le (Nat.le_refl _), decide_eq_true h, Bool.true_and, Bool.and_comm]
theorem dgK_one (x : Int) (h : dg x = true) : dgK [x] [x].length = true := by unfold dgK; simp [h]
theorem dgK_two (x y : Int) (h : dg x = true) (h2 : dg y = true) : dgK [x, y] [x, y].length = true := by unfold dgK; simp [h, h2]
theorem lt_not_dg (c : Int) (h : dg c = true) : lt_ c = false := by
  have := (dg_iff c).1 h
  unfold lt_; simp; omega
theorem nmK_all (d : List Int) (h : 1 ≤ d.length) : nmK d d.length = (d.all ld && !dg (d.getD 0 0)) := by
  unfold nmK
  rw [decide_eq_true h, Bool.true_and, Bool.eq_iff_iff]
  simp only [List.all_eq_true, List.mem_range, Bool.or_eq_true, Bool.and_eq_true, Bool.not_eq_true', decide_eq_true_iff]
  constructor
  · intro k
    refine ⟨fun x hx => ?_, ?_⟩
    · obtain ⟨i, hi, rfl⟩ := List.mem_iff_getElem.1 hx
      have := k i hi
      rw [List.getD_eq_getElem?_getD, List.getElem?_eq_getElem hi, Option.getD_some] at this
      unfold ld
      rcases this with h | h
      · rw [h]; rfl
      · rw [h.1, Bool.or_true]
    · rcases k 0 h with h1 | h1
      · cases e : dg (d.getD 0 0) with
        | false => rfl
        | true => rw [lt_not_dg _ e] at h1; cases h1
      · omega
  · rintro ⟨k1, k2⟩ j hj
    have hm : d.getD j 0 ∈ d := by rw [List.getD_eq_getElem?_getD, List.getElem?_eq_getElem hj]; exact List.getElem_mem _
    have := k1 _ hm
    unfold ld at this
    rw [Bool.or_eq_true] at this
    rcases this with h1 | h1
    · exact .inl h1
    · refine .inr ⟨h1, ?_⟩
      rcases Nat.eq_zero_or_pos j with h0 | h0
      · subst h0; rw [h1] at k2; cases k2
      · exact h0
/-- What a mark comes to: an error, or a group and how long it is. -/
def meant (groups : Int) (T : List ByteArray) : Mk → Int × Int × Nat
  | .bad => (220, 0, 0)
  | .txt c s => (0, 0, s)
  | .num d s => if val d ≤ groups then (0, val d, s) else (151, 0, 0)
  | .nam d s => if 0 ≤ sx (strOfNums d) (T.drop 1) then (0, sx (strOfNums d) (T.drop 1) + 1, s) else (151, 0, 0)
/-- The same of a word. -/
def ofWord (groups : Int) (T : List ByteArray) (d : List Int) (s : Nat) : Int × Int × Nat := if (grpV d groups T).2 = 0 then (0, (grpV d groups T).1, s) else ((grpV d groups T).2, 0, 0)
theorem ofWord_num (groups : Int) (T : List ByteArray) (d : List Int) (s : Nat) (h : dgK d d.length = true) : ofWord groups T d s = meant groups T (.num d s) := by
  have e : grpV d groups T = (if groups < val d then (0, 151) else (val d, 0)) := by unfold grpV; rw [if_pos h]
  show ofWord groups T d s = (if val d ≤ groups then (0, val d, s) else (151, 0, 0))
  unfold ofWord
  rw [e]
  by_cases hg : groups < val d
  · rw [if_pos hg, if_neg (show ¬ val d ≤ groups from by omega)]; rfl
  · rw [if_neg hg, if_pos (show val d ≤ groups from by omega)]; rfl
theorem ofWord_nam (groups : Int) (T : List ByteArray) (d : List Int) (s : Nat) (h : dgK d d.length = false) (h2 : nmK d d.length = true) : ofWord groups T d s = meant groups T (.nam d s) := by
  have := sx_ge (strOfNums d) (T.drop 1)
  have e : grpV d groups T = (if sx (strOfNums d) (T.drop 1) = -1 then (0, 151) else (sx (strOfNums d) (T.drop 1) + 1, 0)) := by unfold grpV; rw [h, h2]; rfl
  show ofWord groups T d s = (if 0 ≤ sx (strOfNums d) (T.drop 1) then (0, sx (strOfNums d) (T.drop 1) + 1, s) else (151, 0, 0))
  unfold ofWord
  rw [e]
  by_cases hg : sx (strOfNums d) (T.drop 1) = -1
  · rw [if_pos hg, if_neg (show ¬ 0 ≤ sx (strOfNums d) (T.drop 1) from by omega)]; rfl
  · rw [if_neg hg, if_pos (show 0 ≤ sx (strOfNums d) (T.drop 1) from by omega)]; rfl
theorem ofWord_bad (groups : Int) (T : List ByteArray) (d : List Int) (s : Nat) (h : dgK d d.length = false) (h2 : nmK d d.length = false) : ofWord groups T d s = (220, 0, 0) := by
  have e : grpV d groups T = (0, 220) := by unfold grpV; rw [h, h2]; rfl
  unfold ofWord
  rw [e]; rfl
theorem ix_two (r : List Int) (h0 : r.getD 0 0 = 36) (h1 : r.getD 1 0 = 123) : ix 125 r = if ix 125 (r.drop 2) = -1 then -1 else ix 125 (r.drop 2) + 2 := by
  have l1 := getD_in (l := r) (i := 1) (by rw [h1]; decide)
  have e1 := drop_cons r 0 0 (by omega)
  have e2 := drop_cons r 1 0 l1
  rw [List.drop_zero, h0] at e1
  rw [h1] at e2
  have i2 : ix 125 (r.drop 1) = if ix 125 (r.drop 2) = -1 then -1 else ix 125 (r.drop 2) + 1 := by
    rw [e2]
    rfl
  have i1 : ix 125 r = if ix 125 (r.drop 1) = -1 then -1 else ix 125 (r.drop 1) + 1 := by
    rw [e1]
    rfl
  have g := ix_ge 125 (r.drop 2)
  rw [i1, i2]
  by_cases c : ix 125 (r.drop 2) = -1
  · rw [if_pos c, if_pos rfl, if_pos c]
  · rw [if_neg c, if_neg (by omega), if_neg c]; omega
/-- A brace, as the document reads it. -/
theorem brace_ref (groups : Int) (T : List ByteArray) (r : List Int) (h0 : r.getD 0 0 = 36) (h1 : r.getD 1 0 = 123) : meant groups T (mkB r) = if ix 125 (r.drop 2) = -1 then (220, 0, 0) else ofWord groups T ((r.drop 2).take (ix 125 (r.drop 2)).toNat) ((ix 125 (r.drop 2)).toNat + 3) := by
  have hx := ix_two r h0 h1
  have g := ix_ge 125 (r.drop 2)
  have gl := ix_lt 125 (r.drop 2)
  unfold mkB
  by_cases c : ix 125 (r.drop 2) = -1
  · rw [if_pos c] at hx ⊢
    rw [if_pos (by omega)]; rfl
  rw [if_neg c] at hx ⊢
  have e1 : (ix 125 r).toNat - 2 = (ix 125 (r.drop 2)).toNat := by omega
  have e2 : (ix 125 r).toNat + 1 = (ix 125 (r.drop 2)).toNat + 3 := by omega
  rw [e1, e2]
  obtain ⟨m, hm⟩ : ∃ m : Nat, (ix 125 (r.drop 2)).toNat = m := ⟨_, rfl⟩
  have hml : m ≤ (r.drop 2).length := by omega
  rw [hm]
  rcases Nat.eq_zero_or_pos m with hz | hz
  · subst hz
    rw [if_pos (by omega), List.take_zero, ofWord_bad groups T [] _ rfl rfl]; rfl
  rw [if_neg (by omega)]
  have hlen : ((r.drop 2).take m).length = m := by rw [List.length_take]; omega
  have hg0 : ((r.drop 2).take m).getD 0 0 = r.getD 2 0 := by rw [getD_sub, if_pos hz]
  have hD := dgK_all ((r.drop 2).take m) (by omega)
  have hN := nmK_all ((r.drop 2).take m) (by omega)
  rw [hlen] at hD
  rw [hg0] at hN
  cases eD : (((r.drop 2).take m).all dg && decide (m ≤ 3)) with
  | true =>
    rw [if_pos rfl]
    exact (ofWord_num groups T _ _ (by rw [hlen, hD, eD])).symm
  | false =>
    rw [if_neg (by decide)]
    cases eN : (((r.drop 2).take m).all ld && !dg (r.getD 2 0)) with
    | true =>
      rw [if_pos rfl]
      exact (ofWord_nam groups T _ _ (by rw [hlen, hD, eD]) (by rw [hN, eN])).symm
    | false =>
      rw [if_neg (by decide)]
      exact (ofWord_bad groups T _ _ (by rw [hlen, hD, eD]) (by rw [hN, eN])).symm
/-- The parts so far, with the text in the making. -/
def flush (t : List Int) : List Pt := if t = [] then [] else [(t, -1)]
def Ends (ps : List Pt) : Prop := ps = [] ∨ ∃ q p, ps = q ++ [p] ∧ ¬ p.2 = -1
theorem addT_flush (ps : List Pt) (h : Ends ps) (t : List Int) (c : Int) : addT (ps ++ flush t) [c] = ps ++ flush (t ++ [c]) := by
  have e2 : flush (t ++ [c]) = [(t ++ [c], -1)] := by unfold flush; rw [if_neg (by simp)]
  rw [e2]
  unfold flush
  by_cases ht : t = []
  · subst ht
    rw [if_pos rfl, List.append_nil, List.nil_append]
    rcases h with rfl | ⟨q, p, rfl, hp⟩
    · rfl
    · obtain ⟨a, b⟩ := p
      rw [addT_snoc, if_neg hp]
  · rw [if_neg ht, addT_snoc, if_pos rfl]
theorem tm_meant (l : List Int) (groups : Int) (T : List ByteArray) (a : Nat) (acc : List Pt) (h : a < l.length) (hn : ∀ c s, ¬ mk (l.drop a) = .txt c s) : tm l groups T (l.length - a + 1) a acc =
    if (meant groups T (mk (l.drop a))).1 = 0 then tm l groups T (l.length - (a + (meant groups T (mk (l.drop a))).2.2) + 1) (a + (meant groups T (mk (l.drop a))).2.2) (acc ++ [([], (meant groups T (mk (l.drop a))).2.1)]) else .no (meant groups T (mk (l.drop a))).1 a := by
  rw [tm_next l groups T a acc h]
  cases e : mk (l.drop a) with
  | bad => rfl
  | txt c s => exact absurd e (hn c s)
  | num d s =>
    by_cases hv : val d ≤ groups
    · have em : meant groups T (.num d s) = (0, val d, s) := by simp only [meant]; rw [if_pos hv]
      rw [em]; simp only [if_pos hv, if_true]
    · have em : meant groups T (.num d s) = (151, 0, 0) := by simp only [meant]; rw [if_neg hv]
      rw [em]; simp only [if_neg hv]; rfl
  | nam d s =>
    by_cases hv : 0 ≤ sx (strOfNums d) (T.drop 1)
    · have em : meant groups T (.nam d s) = (0, sx (strOfNums d) (T.drop 1) + 1, s) := by simp only [meant]; rw [if_pos hv]
      rw [em]; simp only [if_pos hv, if_true]
    · have em : meant groups T (.nam d s) = (151, 0, 0) := by simp only [meant]; rw [if_neg hv]
      rw [em]; simp only [if_neg hv]; rfl
/-- The value is 0 or greater. -/
theorem meant_ge (groups : Int) (T : List ByteArray) (r : List Int) : 0 ≤ (meant groups T (mk r)).2.1 := by
  have key : ∀ M : Mk, (∀ d s, M = .num d s → ∀ x ∈ d, dg x = true) → 0 ≤ (meant groups T M).2.1 := by
    intro M hM
    cases M with
    | bad => exact Int.le_refl 0
    | txt c s => exact Int.le_refl 0
    | num d s =>
      simp only [meant]
      split
      · exact (val_le _ d rfl (hM d s rfl)).1
      · decide
    | nam d s =>
      simp only [meant]
      split
      · simp only; omega
      · decide
  refine key _ ?_
  intro d s e
  unfold mk at e
  split at e
  · cases e
  split at e
  · cases e
  split at e
  · unfold mkB at e
    split at e
    · cases e
    split at e
    · rename_i h
      cases e
      rw [Bool.and_eq_true, List.all_eq_true] at h
      exact h.1
    split at e <;> cases e
  split at e
  · rename_i h1
    split at e
    · rename_i h2
      cases e
      intro x hx
      simp only [List.mem_cons, List.mem_nil_iff, or_false] at hx
      rcases hx with rfl | rfl
      · exact h1
      · exact h2
    · cases e
      intro x hx
      simp only [List.mem_cons, List.mem_nil_iff, or_false] at hx
      subst hx; exact h1
  · cases e
end Go.Proofs.Ytfnndnlhdfjggaa.edt
