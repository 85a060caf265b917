/- Texts that the proof leans on, one behind the other. -/
import Derived.Test.YtbdediacfckpcaaGreatDoorBdTok4
import Derived.Test.YtbdediacfckpcaaGreatDoorBdUtf2

section
/- What a pattern says for a code point is one token. Plain mathematics. -/
set_option linter.unusedVariables false
set_option linter.unusedSimpArgs false
namespace Go.Proofs.YtbdediacfckpcaaGreatDoor.tok
open utf (it len it_end enc it_ext it_shift it_enc enc_pos enc_of_1 len_1)

/-- These bytes stand at a place. -/
def Here (f : Nat → Int) (n a : Nat) (L : List Int) : Prop := a + L.length ≤ n ∧ ∀ i, i < L.length → f (a + i) = L.getD i 0
theorem Here.left {f : Nat → Int} {n a : Nat} {L M : List Int} (h : Here f n a (L ++ M)) : Here f n a L := by
  refine ⟨by have := h.1; simp at this; omega, fun i hi => ?_⟩
  have := h.2 i (by simp; omega)
  rw [this]
  simp [List.getD, List.getElem?_append_left hi]
theorem Here.right {f : Nat → Int} {n a : Nat} {L M : List Int} (h : Here f n a (L ++ M)) : Here f n (a + L.length) M := by
  refine ⟨by have := h.1; simp at this; omega, fun i hi => ?_⟩
  have := h.2 (L.length + i) (by simp; omega)
  rw [Nat.add_assoc, this]
  simp [List.getD, List.getElem?_append_right (Nat.le_add_right L.length i)]
theorem point_here {f : Nat → Int} {n a : Nat} {r : Int} (hr : len r ≠ 0) (h : Here f n a (enc r)) : point f n a = .ok r (a + (enc r).length) := by
  have hp := enc_pos r hr
  have h1 := h.1
  have e1 := it_ext (fun i => (enc r).getD i 0) (fun i => f (a + i)) (enc r).length (n - a) 0 (by omega) hp.1 (fun i hi => h.2 i hi) (by rw [it_enc r hr])
  rw [it_enc r hr, it_shift, show a + (n - a) = n by omega, show a + 0 = a by omega] at e1
  have he := it_end f n a (by omega)
  have e2 : (it f n a).1 = r := congrArg (·.1) e1
  have e3 : (it f n a).2.1 - a = (enc r).length := congrArg (·.2.1) e1
  have e4 : (it f n a).2.2 = true := congrArg (·.2.2) e1
  unfold point
  rw [if_pos (by omega), if_pos e4, e2, show (it f n a).2.1 = a + (enc r).length by omega]
theorem enc_low (r : Int) (h0 : 0 ≤ r) (h1 : r ≤ 127) : enc r = [r] := enc_of_1 r (len_1 r h0 h1)
theorem len_low (r : Int) (h0 : 0 ≤ r) (h1 : r ≤ 127) : len r ≠ 0 := by rw [len_1 r h0 h1]; decide
/-- A byte below 128 is a code point. -/
theorem point_low {f : Nat → Int} {n a : Nat} {r : Int} (h0 : 0 ≤ r) (h1 : r ≤ 127) (ha : a < n) (hf : f a = r) : point f n a = .ok r (a + 1) := by
  have := point_here (f := f) (n := n) (a := a) (len_low r h0 h1) (by rw [enc_low r h0 h1]; exact ⟨by simp; omega, fun i hi => by simp at hi; subst hi; simpa using hf⟩)
  rw [enc_low r h0 h1] at this
  exact this

def dU (d : Int) : Int := if d < 10 then 48 + d else 55 + d
def hexU (r : Int) : List Int := if r < 16 then [dU r] else [dU (r / 16), dU (r % 16)]
def marksO : List Int := [46, 91, 40, 41, 124, 42, 43, 63, 123, 94, 36, 92]
def marksC : List Int := [91, 93, 94, 45, 38, 126, 92]
/-- What a pattern says for a code point. -/
def printL (r : Int) (cls : Bool) : List Int :=
  if len r = 0 then [] else if r < 32 ∨ r = 127 then [92, 120, 123] ++ hexU r ++ [125]
  else if r ∈ (if cls = true then marksC else marksO) then 92 :: enc r else enc r
theorem marks_low (r : Int) (cls : Bool) (h : r ∈ (if cls = true then marksC else marksO)) : 32 ≤ r ∧ r ≤ 126 ∧ letterB r = false ∧ digitB r = false ∧ ¬ (r = 100 ∨ r = 119 ∨ r = 115 ∨ r = 68 ∨ r = 87 ∨ r = 83 ∨ r = 112 ∨ r = 80 ∨ r = 110 ∨ r = 116 ∨ r = 114 ∨ r = 120) := by
  cases cls
  · simp only [Bool.false_eq_true, if_false, marksO, List.mem_cons, List.not_mem_nil, or_false] at h
    rcases h with rfl | rfl | rfl | rfl | rfl | rfl | rfl | rfl | rfl | rfl | rfl | rfl <;> decide
  · simp only [if_true, marksC, List.mem_cons, List.not_mem_nil, or_false] at h
    rcases h with rfl | rfl | rfl | rfl | rfl | rfl | rfl <;> decide

section
variable (f : Nat → Int) (n : Nat)
theorem octet_at {a : Nat} {c : Int} (ha : a < n) (h : f a = c) : octet f n a = .ok c (a + 1) := by unfold octet; rw [if_pos ha, h]
theorem want_at {st a : Nat} {c : Int} (ha : a < n) (h : f a = c) : want f n st c a = .ok () (a + 1) := by unfold want; rw [octet_at f n ha h, bind_ok, if_pos rfl]
theorem dU_dg (d : Int) (h0 : 0 ≤ d) (h1 : d < 16) : dgV (dU d) 16 = d := by unfold dU dgV; (repeat' split) <;> omega
theorem number_one {st a : Nat} {d : Int} (h0 : 0 ≤ d) (h1 : d < 16) (ha : a + 1 < n) (hd : f a = dU d) (he : f (a + 1) = 125) : number f n st 16 6 a = .ok (d, 125) (a + 2) := by
  unfold number
  rw [numR_step, octet_at f n (by omega) hd, bind_ok, if_pos (by rw [dU_dg d h0 h1]; omega)]
  simp only []
  rw [numR_step, octet_at f n ha he, bind_ok, if_neg (by decide), if_neg (by decide), dU_dg d h0 h1]
  simp
theorem number_two {st a : Nat} {d e : Int} (h0 : 0 ≤ d) (h1 : d < 16) (h2 : 0 ≤ e) (h3 : e < 16) (ha : a + 2 < n) (hd : f a = dU d) (he : f (a + 1) = dU e) (hf : f (a + 2) = 125) : number f n st 16 6 a = .ok (d * 16 + e, 125) (a + 3) := by
  unfold number
  rw [numR_step, octet_at f n (by omega) hd, bind_ok, if_pos (by rw [dU_dg d h0 h1]; omega)]
  simp only []
  rw [numR_step, octet_at f n (by omega) he, bind_ok, if_pos (by rw [dU_dg e h2 h3]; omega)]
  simp only []
  rw [numR_step, octet_at f n (a := a + 1 + 1) (by omega) hf, bind_ok, if_neg (by decide), if_neg (by decide), dU_dg d h0 h1, dU_dg e h2 h3]
  simp
theorem hex_here {st a : Nat} {r : Int} (h0 : 0 ≤ r) (h1 : r ≤ 127) (h : Here f n a (123 :: (hexU r ++ [125]))) : hex f n st a = .ok (char r) (a + (hexU r).length + 2) := by
  have hl := h.1
  simp only [List.length_cons, List.length_append, List.length_nil] at hl
  unfold hex
  rw [want_at f n (a := a) (c := 123) (by omega) (by have := h.2 0 (by simp); simpa using this), bind_ok]
  unfold hexU at *
  by_cases hr : r < 16
  · rw [if_pos hr] at *
    simp only [List.length_cons, List.length_nil] at hl
    have e1 : f (a + 1) = dU r := by have := h.2 1 (by simp); simpa using this
    have e2 : f (a + 2) = 125 := by have := h.2 2 (by simp); simpa using this
    rw [number_one f n (a := a + 1) h0 hr (by omega) e1 e2, bind_ok, if_pos ⟨len_low r h0 h1, rfl⟩]
    rfl
  · rw [if_neg hr] at *
    simp only [List.length_cons, List.length_nil] at hl
    have e1 : f (a + 1) = dU (r / 16) := by have := h.2 1 (by simp); simpa using this
    have e2 : f (a + 2) = dU (r % 16) := by have := h.2 2 (by simp); simpa using this
    have e3 : f (a + 3) = 125 := by have := h.2 3 (by simp); simpa using this
    rw [number_two f n (a := a + 1) (d := r / 16) (e := r % 16) (by omega) (by omega) (by omega) (by omega) (by omega) e1 e2 e3, bind_ok]
    have e4 : r / 16 * 16 + r % 16 = r := by omega
    rw [e4, if_pos ⟨len_low r h0 h1, rfl⟩]
    rfl
/-- What is said for a code point is its token. -/
theorem token_print {a k : Nat} {r : Int} (hr : len r ≠ 0) (h : Here f n a (printL r (decide (0 < k)))) : token f n a k = .ok (char r, k) (a + (printL r (decide (0 < k))).length) := by
  obtain ⟨r0, r1, r2, -⟩ := utf.len_cases r hr
  unfold printL at *
  rw [if_neg hr] at *
  by_cases hc : r < 32 ∨ r = 127
  · rw [if_pos hc] at *
    have hl := h.1
    simp only [List.length_cons, List.length_append, List.length_nil] at hl
    have e0 : f a = 92 := by have := h.2 0 (by simp); simpa using this
    have e1 : f (a + 1) = 120 := by have := h.2 1 (by simp); simpa using this
    have h2 : Here f n (a + 2) (123 :: (hexU r ++ [125])) := by
      have : [92, 120, 123] ++ hexU r ++ [125] = [92, 120] ++ (123 :: (hexU r ++ [125])) := by simp
      rw [this] at h
      exact h.right
    unfold token
    rw [point_low (r := 92) (by decide) (by decide) (by omega) e0, bind_ok, if_pos rfl]
    unfold escape
    rw [point_low (r := 120) (by decide) (by decide) (by omega) e1, bind_ok]
    simp only [show ¬ (120 : Int) = 100 by decide, show ¬ (120 : Int) = 119 by decide, show ¬ (120 : Int) = 115 by decide, show ¬ (120 : Int) = 68 by decide, show ¬ (120 : Int) = 87 by decide, show ¬ (120 : Int) = 83 by decide, show ¬ (120 : Int) = 112 by decide, show ¬ (120 : Int) = 80 by decide, show ¬ (120 : Int) = 110 by decide, show ¬ (120 : Int) = 116 by decide, show ¬ (120 : Int) = 114 by decide, if_false, if_true]
    rw [hex_here f n r0 (by omega) h2]
    show Out.ok (char r, k) _ = _
    congr 1
    simp only [List.length_cons, List.length_append, List.length_nil]
    omega
  · rw [if_neg hc] at *
    by_cases hm : r ∈ (if decide (0 < k) = true then marksC else marksO)
    · rw [if_pos hm] at *
      obtain ⟨m0, m1, m2, m3, m4⟩ := marks_low r _ hm
      rw [enc_low r r0 (by omega)] at *
      have hl := h.1
      simp only [List.length_cons, List.length_nil] at hl
      have e0 : f a = 92 := by have := h.2 0 (by simp); simpa using this
      have e1 : f (a + 1) = r := by have := h.2 1 (by simp); simpa using this
      unfold token
      rw [point_low (r := 92) (by decide) (by decide) (by omega) e0, bind_ok, if_pos rfl]
      unfold escape
      rw [point_low (r := r) r0 (by omega) (by omega) e1, bind_ok]
      have q : ∀ c : Int, (c = 100 ∨ c = 119 ∨ c = 115 ∨ c = 68 ∨ c = 87 ∨ c = 83 ∨ c = 112 ∨ c = 80 ∨ c = 110 ∨ c = 116 ∨ c = 114 ∨ c = 120) → ¬ r = c := fun c hc e => m4 (e ▸ hc)
      rw [if_neg (q 100 (by simp)), if_neg (q 119 (by simp)), if_neg (q 115 (by simp)), if_neg (q 68 (by simp)), if_neg (q 87 (by simp)), if_neg (q 83 (by simp)), if_neg (q 112 (by simp)), if_neg (q 80 (by simp)), if_neg (q 110 (by simp)), if_neg (q 116 (by simp)), if_neg (q 114 (by simp)), if_neg (q 120 (by simp)), if_pos ⟨m2, m3⟩]
      rfl
    · rw [if_neg hm] at *
      unfold token
      rw [point_here hr h, bind_ok]
      by_cases hk : 0 < k
      · simp only [hk, decide_true, if_true, marksC, List.mem_cons, List.not_mem_nil, or_false, not_or] at hm
        obtain ⟨q1, q2, q3, q4, q5, q6, q7⟩ := hm
        rw [if_neg q7, if_pos hk]
        unfold within
        rw [if_neg q1, if_neg q2, if_neg (fun h => q5 h.1), if_neg (fun h => q4 h.1), if_neg (fun h => q6 h.1), if_neg q4]
      · simp only [hk, decide_false, Bool.false_eq_true, if_false, marksO, List.mem_cons, List.not_mem_nil, or_false, not_or] at hm
        obtain ⟨q1, q2, q3, q4, q5, q6, q7, q8, q9, q10, q11, q12⟩ := hm
        rw [if_neg q12, if_neg hk]
        unfold outside mark
        rw [if_neg q2, if_neg q1, if_neg q5, if_neg q3, if_neg q4, if_neg q6, if_neg q7, if_neg q8, if_neg q9, if_neg q10, if_neg q11]
        rfl
theorem print_pos (r : Int) (cls : Bool) (hr : len r ≠ 0) : 0 < (printL r cls).length ∧ (printL r cls).length ≤ 6 := by
  have hp := enc_pos r hr
  unfold printL hexU
  rw [if_neg hr]
  by_cases hc : r < 32 ∨ r = 127
  · rw [if_pos hc]; split <;> simp
  · rw [if_neg hc]
    by_cases hm : r ∈ (if cls = true then marksC else marksO)
    · rw [if_pos hm, List.length_cons]; omega
    · rw [if_neg hm]; omega
theorem print_none (r : Int) (cls : Bool) (hr : len r = 0) : printL r cls = [] := by unfold printL; rw [if_pos hr]
theorem print_range (r : Int) (cls : Bool) : ∀ i, 0 ≤ (printL r cls).getD i 0 ∧ (printL r cls).getD i 0 ≤ 255 := by
  intro i
  unfold printL
  split
  · simp
  · rename_i hr
    obtain ⟨r0, r1, -⟩ := utf.len_cases r hr
    split
    · rename_i hc
      have hd : ∀ d : Int, 0 ≤ d → d < 16 → 0 ≤ dU d ∧ dU d ≤ 255 := fun d h0 h1 => by unfold dU; split <;> omega
      have a1 := hd (r / 16) (by omega) (by omega)
      have a2 := hd (r % 16) (by omega) (by omega)
      have key : ∀ x ∈ [92, 120, 123] ++ hexU r ++ [125], 0 ≤ x ∧ x ≤ (255 : Int) := by
        intro x hx
        unfold hexU at hx
        split at hx
        · have a3 := hd r r0 (by omega)
          simp at hx
          rcases hx with rfl | rfl | rfl | rfl | rfl <;> first | decide | exact a3
        · simp at hx
          rcases hx with rfl | rfl | rfl | rfl | rfl | rfl <;> first | decide | exact a1 | exact a2
      rw [List.getD_eq_getElem?_getD]
      cases hg : ([92, 120, 123] ++ hexU r ++ [125])[i]? with
      | none => simp
      | some x => exact key x (List.mem_of_getElem? hg)
    · by_cases hm : r ∈ (if cls = true then marksC else marksO)
      · rw [if_pos hm]
        cases i with
        | zero => simp
        | succ i => simpa using utf.enc_range r i
      · rw [if_neg hm]; exact utf.enc_range r i
end
end Go.Proofs.YtbdediacfckpcaaGreatDoor.tok
end
