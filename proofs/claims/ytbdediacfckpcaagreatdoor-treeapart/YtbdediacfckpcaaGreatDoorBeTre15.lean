/- Texts that the proof leans on, one behind the other. -/
import Derived.Test.YtbdediacfckpcaaGreatDoorBeUtf1
import Derived.Test.YtbdediacfckpcaaGreatDoorBeTok4
import Derived.Test.YtbdediacfckpcaaGreatDoorBeTre2

section
/- What the bundles lack. -/
set_option linter.unusedVariables false
set_option linter.unusedSimpArgs false
namespace Go.Proofs.YtbdediacfckpcaaGreatDoor.utf
open Go.RowKit

theorem enc_range (r : Int) : ∀ i, 0 ≤ (enc r).getD i 0 ∧ (enc r).getD i 0 ≤ 255 := by
  by_cases h : len r = 0
  · intro i
    have e : enc r = [] := by unfold enc; simp [h]
    rw [e]; simp
  · obtain ⟨h0, h1, h2, c | c | c | c⟩ := len_cases r h
    all_goals
      intro i
      unfold enc
      simp only [c.1]
      match i with
      | 0 => simp; omega
      | 1 => simp; try omega
      | 2 => simp; try omega
      | 3 => simp; try omega
      | k + 4 => simp


end Go.Proofs.YtbdediacfckpcaaGreatDoor.utf
namespace Go.Proofs.YtbdediacfckpcaaGreatDoor.tok
open utf (it len it_end enc it_ext it_shift it_enc enc_pos enc_of_1 len_1)

theorem Here.right {f : Nat → Int} {n a : Nat} {L M : List Int} (h : Here f n a (L ++ M)) : Here f n (a + L.length) M := by
  refine ⟨by have := h.1; simp at this; omega, fun i hi => ?_⟩
  have := h.2 (L.length + i) (by simp; omega)
  rw [Nat.add_assoc, this]
  simp [List.getD, List.getElem?_append_right (Nat.le_add_right L.length i)]
theorem point_here {f : Nat → Int} {n a : Nat} {r : Int} (hr : len r ≠ 0) (h : Here f n a (enc r)) : point f n a = .ok r (a + (enc r).length) := by
  have hp := enc_pos r hr
  have h1 := h.1
  have e1 := it_ext (fun i => (enc r).getD i 0) (fun i => f (a + i)) (enc r).length (n - a) 0 (by omega) hp.1 (fun i hi => h.2 i hi) (by rw [it_enc r hr])
  rw [it_enc r hr, it_shift, show a + (n - a) = n by omega, show a + 0 = a by omega] at e1
  have he := it_end f n a (by omega)
  have e2 : (it f n a).1 = r := congrArg (·.1) e1
  have e3 : (it f n a).2.1 - a = (enc r).length := congrArg (·.2.1) e1
  have e4 : (it f n a).2.2 = true := congrArg (·.2.2) e1
  unfold point
  rw [if_pos (by omega), if_pos e4, e2, show (it f n a).2.1 = a + (enc r).length by omega]
theorem len_low (r : Int) (h0 : 0 ≤ r) (h1 : r ≤ 127) : len r ≠ 0 := by rw [len_1 r h0 h1]; decide
theorem point_low {f : Nat → Int} {n a : Nat} {r : Int} (h0 : 0 ≤ r) (h1 : r ≤ 127) (ha : a < n) (hf : f a = r) : point f n a = .ok r (a + 1) := by
  have := point_here (f := f) (n := n) (a := a) (len_low r h0 h1) (by rw [enc_low r h0 h1]; exact ⟨by simp; omega, fun i hi => by simp at hi; subst hi; simpa using hf⟩)
  rw [enc_low r h0 h1] at this
  exact this

section
variable (f : Nat → Int) (n : Nat)
theorem octet_at {a : Nat} {c : Int} (ha : a < n) (h : f a = c) : octet f n a = .ok c (a + 1) := by unfold octet; rw [if_pos ha, h]
theorem want_at {st a : Nat} {c : Int} (ha : a < n) (h : f a = c) : want f n st c a = .ok () (a + 1) := by unfold want; rw [octet_at f n ha h, bind_ok, if_pos rfl]
theorem dU_dg (d : Int) (h0 : 0 ≤ d) (h1 : d < 16) : dgV (dU d) 16 = d := by unfold dU dgV; (repeat' split) <;> omega
theorem number_one {st a : Nat} {d : Int} (h0 : 0 ≤ d) (h1 : d < 16) (ha : a + 1 < n) (hd : f a = dU d) (he : f (a + 1) = 125) : number f n st 16 6 a = .ok (d, 125) (a + 2) := by
  unfold number
  rw [numR_step, octet_at f n (by omega) hd, bind_ok, if_pos (by rw [dU_dg d h0 h1]; omega)]
  simp only []
  rw [numR_step, octet_at f n ha he, bind_ok, if_neg (by decide), if_neg (by decide), dU_dg d h0 h1]
  simp
theorem number_two {st a : Nat} {d e : Int} (h0 : 0 ≤ d) (h1 : d < 16) (h2 : 0 ≤ e) (h3 : e < 16) (ha : a + 2 < n) (hd : f a = dU d) (he : f (a + 1) = dU e) (hf : f (a + 2) = 125) : number f n st 16 6 a = .ok (d * 16 + e, 125) (a + 3) := by
  unfold number
  rw [numR_step, octet_at f n (by omega) hd, bind_ok, if_pos (by rw [dU_dg d h0 h1]; omega)]
  simp only []
  rw [numR_step, octet_at f n (by omega) he, bind_ok, if_pos (by rw [dU_dg e h2 h3]; omega)]
  simp only []
  rw [numR_step, octet_at f n (a := a + 1 + 1) (by omega) hf, bind_ok, if_neg (by decide), if_neg (by decide), dU_dg d h0 h1, dU_dg e h2 h3]
  simp
theorem hex_here {st a : Nat} {r : Int} (h0 : 0 ≤ r) (h1 : r ≤ 127) (h : Here f n a (123 :: (hexU r ++ [125]))) : hex f n st a = .ok (char r) (a + (hexU r).length + 2) := by
  have hl := h.1
  simp only [List.length_cons, List.length_append, List.length_nil] at hl
  unfold hex
  rw [want_at f n (a := a) (c := 123) (by omega) (by have := h.2 0 (by simp); simpa using this), bind_ok]
  unfold hexU at *
  by_cases hr : r < 16
  · rw [if_pos hr] at *
    simp only [List.length_cons, List.length_nil] at hl
    have e1 : f (a + 1) = dU r := by have := h.2 1 (by simp); simpa using this
    have e2 : f (a + 2) = 125 := by have := h.2 2 (by simp); simpa using this
    rw [number_one f n (a := a + 1) h0 hr (by omega) e1 e2, bind_ok, if_pos ⟨len_low r h0 h1, rfl⟩]
    rfl
  · rw [if_neg hr] at *
    simp only [List.length_cons, List.length_nil] at hl
    have e1 : f (a + 1) = dU (r / 16) := by have := h.2 1 (by simp); simpa using this
    have e2 : f (a + 2) = dU (r % 16) := by have := h.2 2 (by simp); simpa using this
    have e3 : f (a + 3) = 125 := by have := h.2 3 (by simp); simpa using this
    rw [number_two f n (a := a + 1) (d := r / 16) (e := r % 16) (by omega) (by omega) (by omega) (by omega) (by omega) e1 e2 e3, bind_ok]
    have e4 : r / 16 * 16 + r % 16 = r := by omega
    rw [e4, if_pos ⟨len_low r h0 h1, rfl⟩]
    rfl
theorem token_print {a k : Nat} {r : Int} (hr : len r ≠ 0) (h : Here f n a (printL r (decide (0 < k)))) : token f n a k = .ok (char r, k) (a + (printL r (decide (0 < k))).length) := by
  obtain ⟨r0, r1, r2, -⟩ := utf.len_cases r hr
  unfold printL at *
  rw [if_neg hr] at *
  by_cases hc : r < 32 ∨ r = 127
  · rw [if_pos hc] at *
    have hl := h.1
    simp only [List.length_cons, List.length_append, List.length_nil] at hl
    have e0 : f a = 92 := by have := h.2 0 (by simp); simpa using this
    have e1 : f (a + 1) = 120 := by have := h.2 1 (by simp); simpa using this
    have h2 : Here f n (a + 2) (123 :: (hexU r ++ [125])) := by
      have : [92, 120, 123] ++ hexU r ++ [125] = [92, 120] ++ (123 :: (hexU r ++ [125])) := by simp
      rw [this] at h
      exact h.right
    unfold token
    rw [point_low (r := 92) (by decide) (by decide) (by omega) e0, bind_ok, if_pos rfl]
    unfold escape
    rw [point_low (r := 120) (by decide) (by decide) (by omega) e1, bind_ok]
    simp only [show ¬ (120 : Int) = 100 by decide, show ¬ (120 : Int) = 119 by decide, show ¬ (120 : Int) = 115 by decide, show ¬ (120 : Int) = 68 by decide, show ¬ (120 : Int) = 87 by decide, show ¬ (120 : Int) = 83 by decide, show ¬ (120 : Int) = 112 by decide, show ¬ (120 : Int) = 80 by decide, show ¬ (120 : Int) = 110 by decide, show ¬ (120 : Int) = 116 by decide, show ¬ (120 : Int) = 114 by decide, if_false, if_true]
    rw [hex_here f n r0 (by omega) h2]
    show Out.ok (char r, k) _ = _
    congr 1
    simp only [List.length_cons, List.length_append, List.length_nil]
    omega
  · rw [if_neg hc] at *
    by_cases hm : r ∈ (if decide (0 < k) = true then marksC else marksO)
    · rw [if_pos hm] at *
      obtain ⟨m0, m1, m2, m3, m4⟩ := marks_low r _ hm
      rw [enc_low r r0 (by omega)] at *
      have hl := h.1
      simp only [List.length_cons, List.length_nil] at hl
      have e0 : f a = 92 := by have := h.2 0 (by simp); simpa using this
      have e1 : f (a + 1) = r := by have := h.2 1 (by simp); simpa using this
      unfold token
      rw [point_low (r := 92) (by decide) (by decide) (by omega) e0, bind_ok, if_pos rfl]
      unfold escape
      rw [point_low (r := r) r0 (by omega) (by omega) e1, bind_ok]
      have q : ∀ c : Int, (c = 100 ∨ c = 119 ∨ c = 115 ∨ c = 68 ∨ c = 87 ∨ c = 83 ∨ c = 112 ∨ c = 80 ∨ c = 110 ∨ c = 116 ∨ c = 114 ∨ c = 120) → ¬ r = c := fun c hc e => m4 (e ▸ hc)
      rw [if_neg (q 100 (by simp)), if_neg (q 119 (by simp)), if_neg (q 115 (by simp)), if_neg (q 68 (by simp)), if_neg (q 87 (by simp)), if_neg (q 83 (by simp)), if_neg (q 112 (by simp)), if_neg (q 80 (by simp)), if_neg (q 110 (by simp)), if_neg (q 116 (by simp)), if_neg (q 114 (by simp)), if_neg (q 120 (by simp)), if_pos ⟨m2, m3⟩]
      rfl
    · rw [if_neg hm] at *
      unfold token
      rw [point_here hr h, bind_ok]
      by_cases hk : 0 < k
      · simp only [hk, decide_true, if_true, marksC, List.mem_cons, List.not_mem_nil, or_false, not_or] at hm
        obtain ⟨q1, q2, q3, q4, q5, q6, q7⟩ := hm
        rw [if_neg q7, if_pos hk]
        unfold within
        rw [if_neg q1, if_neg q2, if_neg (fun h => q5 h.1), if_neg (fun h => q4 h.1), if_neg (fun h => q6 h.1), if_neg q4]
      · simp only [hk, decide_false, Bool.false_eq_true, if_false, marksO, List.mem_cons, List.not_mem_nil, or_false, not_or] at hm
        obtain ⟨q1, q2, q3, q4, q5, q6, q7, q8, q9, q10, q11, q12⟩ := hm
        rw [if_neg q12, if_neg hk]
        unfold outside mark
        rw [if_neg q2, if_neg q1, if_neg q5, if_neg q3, if_neg q4, if_neg q6, if_neg q7, if_neg q8, if_neg q9, if_neg q10, if_neg q11]
        rfl
theorem print_range (r : Int) (cls : Bool) : ∀ i, 0 ≤ (printL r cls).getD i 0 ∧ (printL r cls).getD i 0 ≤ 255 := by
  intro i
  unfold printL
  split
  · simp
  · rename_i hr
    obtain ⟨r0, r1, -⟩ := utf.len_cases r hr
    split
    · rename_i hc
      have hd : ∀ d : Int, 0 ≤ d → d < 16 → 0 ≤ dU d ∧ dU d ≤ 255 := fun d h0 h1 => by unfold dU; split <;> omega
      have a1 := hd (r / 16) (by omega) (by omega)
      have a2 := hd (r % 16) (by omega) (by omega)
      have key : ∀ x ∈ [92, 120, 123] ++ hexU r ++ [125], 0 ≤ x ∧ x ≤ (255 : Int) := by
        intro x hx
        unfold hexU at hx
        split at hx
        · have a3 := hd r r0 (by omega)
          simp at hx
          rcases hx with rfl | rfl | rfl | rfl | rfl <;> first | decide | exact a3
        · simp at hx
          rcases hx with rfl | rfl | rfl | rfl | rfl | rfl <;> first | decide | exact a1 | exact a2
      rw [List.getD_eq_getElem?_getD]
      cases hg : ([92, 120, 123] ++ hexU r ++ [125])[i]? with
      | none => simp
      | some x => exact key x (List.mem_of_getElem? hg)
    · by_cases hm : r ∈ (if cls = true then marksC else marksO)
      · rw [if_pos hm]
        cases i with
        | zero => simp
        | succ i => simpa using utf.enc_range r i
      · rw [if_neg hm]; exact utf.enc_range r i
end

end Go.Proofs.YtbdediacfckpcaaGreatDoor.tok
end

section
/- The pieces of a pattern, read as tokens where they stand. Plain mathematics. -/
set_option linter.unusedVariables false
set_option linter.unusedSimpArgs false
namespace Go.Proofs.YtbdediacfckpcaaGreatDoor.tre
open Go.RowKit nod tok

/-- From place a on, so many classes open, these tokens are read, up to place b. -/
inductive Rd (f : Nat → Int) (n : Nat) : Nat → Nat → List Tk → Nat → Nat → Prop
  | nil (a k : Nat) : Rd f n a k [] a k
  | cons {a k a1 k1 b k2 : Nat} {T : Tk} {Ts : List Tk} (h : token f n a k = .ok (T, k1) a1) (r : Rd f n a1 k1 Ts b k2) : Rd f n a k (T :: Ts) b k2
theorem Rd.one {f : Nat → Int} {n a k b k2 : Nat} {T : Tk} (h : token f n a k = .ok (T, k2) b) : Rd f n a k [T] b k2 := .cons h (.nil _ _)
theorem Rd.app {f : Nat → Int} {n a k b k1 c k2 : Nat} {X Y : List Tk} (h : Rd f n a k X b k1) (g : Rd f n b k1 Y c k2) : Rd f n a k (X ++ Y) c k2 := by
  induction h with
  | nil => exact g
  | cons h r ih => exact .cons h (ih g)

section
variable {f : Nat → Int} {n : Nat}
theorem tokLow {a : Nat} (k : Nat) {x : Int} (hx : f a = x) (h0 : 0 ≤ x) (h1 : x ≤ 127) (hl : a < n) (h92 : ¬ x = 92) : token f n a k = if 0 < k then within f n x (a + 1) k else outside f n a x (a + 1) k := by
  unfold token; rw [point_low h0 h1 hl hx, bind_ok, if_neg h92]
theorem tokEsc {a : Nat} (k : Nat) {x : Int} (h9 : f a = 92) (hx : f (a + 1) = x) (h0 : 0 ≤ x) (h1 : x ≤ 127) (hl : a + 1 < n) : token f n a k = (escape f n a (a + 1) k).with_ k := by
  unfold token; rw [point_low (by decide) (by decide) (by omega) h9, bind_ok, if_pos rfl]
theorem escLow {st a : Nat} (k : Nat) {x : Int} (hx : f a = x) (h0 : 0 ≤ x) (h1 : x ≤ 127) (hl : a < n) : point f n a = .ok x (a + 1) := point_low h0 h1 hl hx
theorem out_mark {a : Nat} {x : Int} (hx : f a = x) (h0 : 0 ≤ x) (h1 : x ≤ 127) (hl : a < n) (h92 : ¬ x = 92) (h91 : ¬ x = 91) {T : Tk} {b : Nat} (hm : tok.mark f n a x (a + 1) = .ok T b) : token f n a 0 = .ok (T, 0) b := by
  rw [tokLow 0 hx h0 h1 hl h92, if_neg (by omega)]; unfold outside; rw [if_neg h91, hm]; rfl
theorem lex_dot {a : Nat} (h : f a = 46) (hl : a < n) : token f n a 0 = .ok (bare 2, 0) (a + 1) := out_mark h (by decide) (by decide) hl (by decide) (by decide) (by unfold tok.mark; simp)
theorem lex_bar {a : Nat} (h : f a = 124) (hl : a < n) : token f n a 0 = .ok (bare 5, 0) (a + 1) := out_mark h (by decide) (by decide) hl (by decide) (by decide) (by unfold tok.mark; simp)
theorem lex_close {a : Nat} (h : f a = 41) (hl : a < n) : token f n a 0 = .ok (bare 4, 0) (a + 1) := out_mark h (by decide) (by decide) hl (by decide) (by decide) (by unfold tok.mark; simp)
/-- What may not stand behind a part. -/
def Fol (f : Nat → Int) (n a : Nat) : Prop := n ≤ a ∨ (f a ≠ 42 ∧ f a ≠ 43 ∧ f a ≠ 63 ∧ f a ≠ 123)
theorem Fol.at {a : Nat} (h : Fol f n a) : at_ f n a 42 = false ∧ at_ f n a 43 = false ∧ at_ f n a 63 = false ∧ at_ f n a 123 = false := by
  unfold at_
  rcases h with h | ⟨h1, h2, h3, h4⟩
  · have : decide (a < n) = false := decide_eq_false (by omega)
    rw [this]; exact ⟨rfl, rfl, rfl, rfl⟩
  · simp [h1, h2, h3, h4]
theorem at_is {a : Nat} {c : Int} (h : f a = c) (hl : a < n) : at_ f n a c = true := by unfold at_; simp [h, hl]
theorem at_ne {a : Nat} {c : Int} (h : f a ≠ c) : at_ f n a c = false := by unfold at_; simp [h]
/-- A repetition's mode, behind its numbers. -/
theorem rep_mode {x y : Int} {a : Nat} (m : Int) (h0 : 0 ≤ m) (h2 : m ≤ 2) (ht : ∀ i c, (textP m modeTexts).data.toList[i]? = some c → f (a + i) = c.toNat) (hl : a + (textP m modeTexts).size ≤ n) (hf : Fol f n (a + (textP m modeTexts).size)) : rep f n x y a = .ok ⟨6, m, x, y, [], false, 0, 0⟩ (a + (textP m modeTexts).size) := by
  have hm : m = 0 ∨ m = 1 ∨ m = 2 := by omega
  rcases hm with rfl | rfl | rfl
  · have e : (textP 0 modeTexts).size = 0 := by decide
    rw [e, Nat.add_zero] at hf ⊢
    unfold rep
    rw [hf.at.2.2.1, hf.at.2.1]; simp
  · have e : (textP 1 modeTexts).size = 1 := by decide
    have e1 : f a = 63 := ht 0 63 (by decide)
    rw [e] at hl ⊢
    unfold rep
    rw [at_is e1 (by omega)]; simp
  · have e : (textP 2 modeTexts).size = 1 := by decide
    have e1 : f a = 43 := ht 0 43 (by decide)
    rw [e] at hl ⊢
    unfold rep
    rw [at_ne (by rw [e1]; decide), at_is e1 (by omega)]; simp
/-- The digits of a number. -/
def dig (v : Nat) : List UInt8 := if v < 10 then [UInt8.ofNat (48 + v)] else if v < 100 then [UInt8.ofNat (48 + v / 10), UInt8.ofNat (48 + v % 10)] else [49, 48, 48]
theorem dec_dig : ∀ v : Fin 101, (dec (v.val : Int)).data.toList = dig v.val := by decide +kernel
theorem dgV_dig (v : Nat) (h : v < 10) : dgV (48 + (v : Int)) 10 = v := by unfold dgV; rw [if_pos (by omega)]; omega
theorem number_step {st a left : Nat} {acc c : Int} {first : Bool} (hl : a < n) (hc : f a = c) (hd : dgV c 10 < 10) : numR f n st 10 (left + 1) acc first a = numR f n st 10 left (acc * 10 + dgV c 10) false (a + 1) := by
  rw [numR, octet_at f n hl hc, bind_ok, if_pos hd]
theorem number_stop {st a left : Nat} {acc c : Int} (hl : a < n) (hc : f a = c) (hd : ¬ dgV c 10 < 10) : numR f n st 10 left acc false a = .ok (acc, c) (a + 1) := by
  cases left <;> (rw [numR, octet_at f n hl hc, bind_ok, if_neg hd, if_neg (by simp)])
/-- A number in digits, and what ends it. -/
theorem number_dec {st a most : Nat} (v : Nat) (hv : v ≤ 100) (hm : (dig v).length ≤ most) {c : Int} (hd : ¬ dgV c 10 < 10) (ht : ∀ i x, (dig v)[i]? = some x → f (a + i) = x.toNat) (hl : a + (dig v).length < n) (hc : f (a + (dig v).length) = c) : number f n st 10 most a = .ok ((v : Int), c) (a + (dig v).length + 1) := by
  unfold number
  unfold dig at *
  by_cases h1 : v < 10
  · rw [if_pos h1] at *
    simp only [List.length_cons, List.length_nil, Nat.zero_add] at *
    have e0 : f a = 48 + (v : Int) := by have := ht 0 _ rfl; simpa [Nat.mod_eq_of_lt (show 48 + v < 256 by omega)] using this
    obtain ⟨q, rfl⟩ : ∃ q, most = q + 1 := ⟨most - 1, by omega⟩
    rw [number_step (by omega) e0 (by rw [dgV_dig v h1]; omega), dgV_dig v h1, number_stop hl hc hd]
    simp
  rw [if_neg h1] at *
  by_cases h2 : v < 100
  · rw [if_pos h2] at *
    simp only [List.length_cons, List.length_nil, Nat.zero_add] at *
    have e0 : f a = 48 + ((v / 10 : Nat) : Int) := by have := ht 0 _ rfl; simpa [Nat.mod_eq_of_lt (show 48 + v / 10 < 256 by omega)] using this
    have e1 : f (a + 1) = 48 + ((v % 10 : Nat) : Int) := by have := ht 1 _ rfl; simpa [Nat.mod_eq_of_lt (show 48 + v % 10 < 256 by omega)] using this
    obtain ⟨q, rfl⟩ : ∃ q, most = q + 1 + 1 := ⟨most - 2, by omega⟩
    rw [number_step (by omega) e0 (by rw [dgV_dig _ (by omega)]; omega), dgV_dig _ (by omega), number_step (by omega) e1 (by rw [dgV_dig _ (by omega)]; omega), dgV_dig _ (by omega), number_stop hl hc hd]
    have : (0 * 10 + ((v / 10 : Nat) : Int)) * 10 + ((v % 10 : Nat) : Int) = v := by omega
    rw [this]
  rw [if_neg h2] at *
  obtain rfl : v = 100 := by omega
  simp only [List.length_cons, List.length_nil, Nat.zero_add] at *
  have e0 : f a = 49 := by have := ht 0 _ rfl; simpa using this
  have e1 : f (a + 1) = 48 := by have := ht 1 _ rfl; simpa using this
  have e2 : f (a + 2) = 48 := by have := ht 2 _ rfl; simpa using this
  obtain ⟨q, rfl⟩ : ∃ q, most = q + 1 + 1 + 1 := ⟨most - 3, by omega⟩
  rw [number_step (by omega) e0 (by decide), number_step (by omega) e1 (by decide), number_step (by omega) e2 (by decide), number_stop hl hc hd]
  simp [dgV]
end
end Go.Proofs.YtbdediacfckpcaaGreatDoor.tre
end

section
/- The pieces of a pattern, read as tokens where they stand: brackets, assertions, numbers. Plain mathematics. -/
set_option linter.unusedVariables false
set_option linter.unusedSimpArgs false
namespace Go.Proofs.YtbdediacfckpcaaGreatDoor.tre
open Go.RowKit nod tok

section
variable {f : Nat → Int} {n : Nat}
/-- The bytes l stand at a. -/
def Lie (f : Nat → Int) (n a : Nat) (l : List UInt8) : Prop := a + l.length ≤ n ∧ ∀ i x, l[i]? = some x → f (a + i) = x.toNat
theorem Lie.left {a : Nat} {l m : List UInt8} (h : Lie f n a (l ++ m)) : Lie f n a l := by
  obtain ⟨h1, h2⟩ := h
  rw [List.length_append] at h1
  refine ⟨by omega, fun i x hi => h2 i x ?_⟩
  rw [List.getElem?_append_left (List.getElem?_eq_some_iff.1 hi).1]; exact hi
theorem Lie.right {a : Nat} {l m : List UInt8} (h : Lie f n a (l ++ m)) : Lie f n (a + l.length) m := by
  obtain ⟨h1, h2⟩ := h
  rw [List.length_append] at h1
  refine ⟨by omega, fun i x hi => ?_⟩
  have := h2 (l.length + i) x (by rw [List.getElem?_append_right (by omega), Nat.add_sub_cancel_left]; exact hi)
  rwa [← Nat.add_assoc] at this
theorem Lie.b0 {a : Nat} {x : UInt8} {l : List UInt8} (h : Lie f n a (x :: l)) : f a = x.toNat ∧ a < n := by
  have := h.2 0 x rfl; have h1 := h.1; simp only [List.length_cons] at h1; exact ⟨this, by omega⟩
theorem Lie.b1 {a : Nat} {x y : UInt8} {l : List UInt8} (h : Lie f n a (x :: y :: l)) : f (a + 1) = y.toNat ∧ a + 1 < n := by
  have := h.2 1 y rfl; have h1 := h.1; simp only [List.length_cons] at h1; exact ⟨this, by omega⟩
theorem Lie.b2 {a : Nat} {x y z : UInt8} {l : List UInt8} (h : Lie f n a (x :: y :: z :: l)) : f (a + 2) = z.toNat ∧ a + 2 < n := by
  have := h.2 2 z rfl; have h1 := h.1; simp only [List.length_cons] at h1; exact ⟨this, by omega⟩
theorem Lie.b3 {a : Nat} {x y z u : UInt8} {l : List UInt8} (h : Lie f n a (x :: y :: z :: u :: l)) : f (a + 3) = u.toNat ∧ a + 3 < n := by
  have := h.2 3 u rfl; have h1 := h.1; simp only [List.length_cons] at h1; exact ⟨this, by omega⟩
theorem Lie.b4 {a : Nat} {x y z u v : UInt8} {l : List UInt8} (h : Lie f n a (x :: y :: z :: u :: v :: l)) : f (a + 4) = v.toNat ∧ a + 4 < n := by
  have := h.2 4 v rfl; have h1 := h.1; simp only [List.length_cons] at h1; exact ⟨this, by omega⟩
/-- An opening bracket. -/
theorem open_tok {a : Nat} (h : f a = 40) (hl : a < n) {T : Tk} {b : Nat} (ho : open_ f n a (a + 1) = .ok T b) : token f n a 0 = .ok (T, 0) b :=
  out_mark h (by decide) (by decide) hl (by decide) (by decide) (by unfold tok.mark; simp [ho])
theorem lex_open {a : Nat} (h : f a = 40) (hl : a < n) (hq : f (a + 1) ≠ 63) : token f n a 0 = .ok (opening 0, 0) (a + 1) :=
  open_tok h hl (by unfold open_; rw [at_ne hq]; simp)
theorem lex_open2 {a : Nat} {c : UInt8} {m : Int} (h : Lie f n a [40, 63, c]) (hc : (c = 58 ∧ m = 1) ∨ (c = 61 ∧ m = 3) ∨ (c = 33 ∧ m = 4) ∨ (c = 62 ∧ m = 7)) : token f n a 0 = .ok (opening m, 0) (a + 3) := by
  obtain ⟨e0, l0⟩ := h.b0
  obtain ⟨e1, l1⟩ := h.b1
  obtain ⟨e2, l2⟩ := h.b2
  refine open_tok e0 l0 ?_
  unfold open_
  rw [at_is (show f (a + 1) = 63 from e1) l1, if_pos rfl, octet_at f n l2 e2, bind_ok]
  rcases hc with ⟨rfl, rfl⟩ | ⟨rfl, rfl⟩ | ⟨rfl, rfl⟩ | ⟨rfl, rfl⟩ <;> simp
theorem lex_behind {a : Nat} {c : UInt8} {m : Int} (h : Lie f n a [40, 63, 60, c]) (hc : (c = 61 ∧ m = 5) ∨ (c = 33 ∧ m = 6)) : token f n a 0 = .ok (opening m, 0) (a + 4) := by
  obtain ⟨e0, l0⟩ := h.b0
  obtain ⟨e1, l1⟩ := h.b1
  obtain ⟨e2, l2⟩ := h.b2
  obtain ⟨e3, l3⟩ := h.b3
  refine open_tok e0 l0 ?_
  unfold open_
  rw [at_is (show f (a + 1) = 63 from e1) l1, if_pos rfl, octet_at f n l2 (show f (a + 1 + 1) = 60 from e2), bind_ok]
  simp only [show ¬ (60 : Int) = 58 by decide, show ¬ (60 : Int) = 61 by decide, show ¬ (60 : Int) = 33 by decide, show ¬ (60 : Int) = 62 by decide, if_false, if_true]
  unfold openLeft
  rcases hc with ⟨rfl, rfl⟩ | ⟨rfl, rfl⟩
  · rw [at_is (show f (a + 1 + 1 + 1) = 61 from e3) l3]; simp
  · rw [at_ne (c := 61) (by show f (a + 3) ≠ 61; rw [e3]; decide), at_is (show f (a + 1 + 1 + 1) = 33 from e3) l3]; simp
/-- Looks by their modes. -/
theorem lex_look {a : Nat} {m : Int} (h0 : 0 ≤ m) (h3 : m ≤ 3) (h : Lie f n a (textP m lookTexts).data.toList) : token f n a 0 = .ok (opening (m + 3), 0) (a + (textP m lookTexts).size) := by
  have hm : m = 0 ∨ m = 1 ∨ m = 2 ∨ m = 3 := by omega
  rcases hm with rfl | rfl | rfl | rfl
  · exact lex_open2 (c := 61) h (.inr (.inl ⟨rfl, rfl⟩))
  · exact lex_open2 (c := 33) h (.inr (.inr (.inl ⟨rfl, rfl⟩)))
  · exact lex_behind (c := 61) h (.inl ⟨rfl, rfl⟩)
  · exact lex_behind (c := 33) h (.inr ⟨rfl, rfl⟩)
/-- A letter behind a backslash, outside of classes. -/
theorem esc_out {a : Nat} {x : Int} (e0 : f a = 92) (e1 : f (a + 1) = x) (hl : a + 1 < n) (hx : x = 65 ∨ x = 122 ∨ x = 98 ∨ x = 66 ∨ x = 88 ∨ x = 107) {T : Tk} {b : Nat} (ho : escOut f n a x (a + 2) = .ok T b) : token f n a 0 = .ok (T, 0) b := by
  rw [tokEsc 0 e0 e1 (by omega) (by omega) hl]
  have he : escape f n a (a + 1) 0 = .ok T b := by
    unfold escape
    rw [point_low (by omega) (by omega) hl e1, bind_ok]
    have q : letterB x = true := by rcases hx with rfl | rfl | rfl | rfl | rfl | rfl <;> decide
    rw [if_neg (by omega), if_neg (by omega), if_neg (by omega), if_neg (by omega), if_neg (by omega), if_neg (by omega), if_neg (by omega), if_neg (by omega), if_neg (by omega), if_neg (by omega), if_neg (by omega), if_neg (by omega), if_neg (by rw [q]; simp), if_neg (by omega)]
    exact ho
  rw [he]; rfl
theorem lex_X {a : Nat} (h : Lie f n a [92, 88]) : token f n a 0 = .ok (bare 10, 0) (a + 2) := esc_out h.b0.1 h.b1.1 h.b1.2 (by simp) (by unfold escOut; simp)
/-- Assertions by their modes. -/
theorem edge_plain {st a : Nat} {x y z : Int} (hf : Fol f n a) : edge f n st x y z a = .ok (asrt x) a := by unfold edge; rw [hf.at.2.2.2]; simp
theorem edge_g {st a : Nat} {x y z : Int} (h : Lie f n a [123, 103, 125]) : edge f n st x y z a = .ok (asrt y) (a + 3) := by
  unfold edge
  rw [at_is (show f a = 123 from h.b0.1) h.b0.2, if_pos rfl, octet_at f n h.b1.2 (show f (a + 1) = 103 from h.b1.1), bind_ok, if_pos rfl, want_at f n h.b2.2 (show f (a + 1 + 1) = 125 from h.b2.1), bind_ok]
theorem edge_w {st a : Nat} {x y z : Int} (h : Lie f n a [123, 119, 125]) : edge f n st x y z a = .ok (asrt z) (a + 3) := by
  unfold edge
  rw [at_is (show f a = 123 from h.b0.1) h.b0.2, if_pos rfl, octet_at f n h.b1.2 (show f (a + 1) = 119 from h.b1.1), bind_ok, if_neg (by decide), if_pos rfl, want_at f n h.b2.2 (show f (a + 1 + 1) = 125 from h.b2.1), bind_ok]
theorem Lie.tail2 {a : Nat} {x y : UInt8} {l : List UInt8} (h : Lie f n a (x :: y :: l)) : Lie f n (a + 2) l := Lie.right (l := [x, y]) h
theorem lex_asrt {a : Nat} {m : Int} (h1 : 1 ≤ m) (h10 : m ≤ 10) (h : Lie f n a (textP m asrtTexts).data.toList) (hf : Fol f n (a + (textP m asrtTexts).size)) : token f n a 0 = .ok (asrt m, 0) (a + (textP m asrtTexts).size) := by
  have hm : m = 1 ∨ m = 2 ∨ m = 3 ∨ m = 4 ∨ m = 5 ∨ m = 6 ∨ m = 7 ∨ m = 8 ∨ m = 9 ∨ m = 10 := by omega
  rcases hm with rfl | rfl | rfl | rfl | rfl | rfl | rfl | rfl | rfl | rfl
  · exact out_mark (x := 94) (Lie.b0 (x := 94) (l := []) h).1 (by decide) (by decide) (Lie.b0 (x := 94) (l := []) h).2 (by decide) (by decide) (by unfold tok.mark; simp; rfl)
  · exact out_mark (x := 36) (Lie.b0 (x := 36) (l := []) h).1 (by decide) (by decide) (Lie.b0 (x := 36) (l := []) h).2 (by decide) (by decide) (by unfold tok.mark; simp; rfl)
  · have h : Lie f n a [92, 65] := h; exact esc_out h.b0.1 h.b1.1 h.b1.2 (by simp) (by unfold escOut; simp; rfl)
  · have h : Lie f n a [92, 122] := h; exact esc_out h.b0.1 h.b1.1 h.b1.2 (by simp) (by unfold escOut; simp; rfl)
  · have h : Lie f n a [92, 98] := h; exact esc_out h.b0.1 h.b1.1 h.b1.2 (by simp) (by unfold escOut; simp; exact edge_plain hf)
  · have h : Lie f n a [92, 66] := h; exact esc_out h.b0.1 h.b1.1 h.b1.2 (by simp) (by unfold escOut; simp; exact edge_plain hf)
  · have h : Lie f n a [92, 98, 123, 103, 125] := h; exact esc_out h.b0.1 h.b1.1 h.b1.2 (by simp) (by unfold escOut; simp; exact edge_g h.tail2)
  · have h : Lie f n a [92, 66, 123, 103, 125] := h; exact esc_out h.b0.1 h.b1.1 h.b1.2 (by simp) (by unfold escOut; simp; exact edge_g h.tail2)
  · have h : Lie f n a [92, 98, 123, 119, 125] := h; exact esc_out h.b0.1 h.b1.1 h.b1.2 (by simp) (by unfold escOut; simp; exact edge_w h.tail2)
  · have h : Lie f n a [92, 66, 123, 119, 125] := h; exact esc_out h.b0.1 h.b1.1 h.b1.2 (by simp) (by unfold escOut; simp; exact edge_w h.tail2)
/-! Classes. -/
theorem lex_class {a k : Nat} (h : f a = 91) (hl : a < n) (hq : f (a + 1) ≠ 94) : token f n a k = .ok (classT false, k + 1) (a + 1) := by
  rw [tokLow k h (by decide) (by decide) hl (by decide)]
  have hc : class_ f n (a + 1) = .ok (classT false) (a + 1) := by unfold class_; rw [at_ne hq]; simp
  split
  · unfold within; rw [if_pos rfl, hc]; rfl
  · unfold outside; rw [if_pos rfl, hc]; rfl
theorem lex_classN {a k : Nat} (h : Lie f n a [91, 94]) : token f n a k = .ok (classT true, k + 1) (a + 2) := by
  rw [tokLow k (show f a = 91 from h.b0.1) (by decide) (by decide) h.b0.2 (by decide)]
  have hc : class_ f n (a + 1) = .ok (classT true) (a + 2) := by unfold class_; rw [at_is (show f (a + 1) = 94 from h.b1.1) h.b1.2]; simp
  split
  · unfold within; rw [if_pos rfl, hc]; rfl
  · unfold outside; rw [if_pos rfl, hc]; rfl
theorem lex_end {a k : Nat} (h : f a = 93) (hl : a < n) : token f n a (k + 1) = .ok (bare 12, k) (a + 1) := by
  rw [tokLow (k + 1) h (by decide) (by decide) hl (by decide), if_pos (by omega)]
  unfold within; simp
theorem lex_dash {a k : Nat} (h : f a = 45) (hl : a < n) (hq : f (a + 1) ≠ 45) : token f n a (k + 1) = .ok (bare 13, k + 1) (a + 1) := by
  rw [tokLow (k + 1) h (by decide) (by decide) hl (by decide), if_pos (by omega)]
  unfold within; rw [at_ne (c := 45) hq]; simp
theorem lex_op {a k : Nat} {m : Int} (hm : m = 1 ∨ m = 2 ∨ m = 3) (h : Lie f n a (textP m opTexts).data.toList) : token f n a (k + 1) = .ok (setT m, k + 1) (a + 2) := by
  rcases hm with rfl | rfl | rfl
  · have h : Lie f n a [38, 38] := h
    rw [tokLow (k + 1) (show f a = 38 from h.b0.1) (by decide) (by decide) h.b0.2 (by decide), if_pos (by omega)]
    unfold within; rw [at_is (c := 38) (show f (a + 1) = 38 from h.b1.1) h.b1.2]; simp
  · have h : Lie f n a [45, 45] := h
    rw [tokLow (k + 1) (show f a = 45 from h.b0.1) (by decide) (by decide) h.b0.2 (by decide), if_pos (by omega)]
    unfold within; rw [at_is (c := 45) (show f (a + 1) = 45 from h.b1.1) h.b1.2]; simp
  · have h : Lie f n a [126, 126] := h
    rw [tokLow (k + 1) (show f a = 126 from h.b0.1) (by decide) (by decide) h.b0.2 (by decide), if_pos (by omega)]
    unfold within; rw [at_is (c := 126) (show f (a + 1) = 126 from h.b1.1) h.b1.2]; simp
end
end Go.Proofs.YtbdediacfckpcaaGreatDoor.tre
end

section
/- The pieces of a pattern, read as tokens where they stand: numbers, properties, names. Plain mathematics. -/
set_option linter.unusedVariables false
set_option linter.unusedSimpArgs false
namespace Go.Proofs.YtbdediacfckpcaaGreatDoor.tre
open Go.RowKit nod tok

theorem data_app (x y : ByteArray) : (x ++ y).data.toList = x.data.toList ++ y.data.toList := by rw [ByteArray.data_append]; simp
theorem dec_list (v : Nat) (h : v ≤ 100) : (dec (v : Int)).data.toList = dig v := dec_dig ⟨v, by omega⟩
theorem dig_pos (v : Nat) : 1 ≤ (dig v).length ∧ (dig v).length ≤ 3 := by unfold dig; (repeat' split) <;> simp
theorem dig_two (v : Nat) (h : v ≤ 99) : (dig v).length ≤ 2 := by unfold dig; (repeat' split) <;> simp_all; omega
section
variable {f : Nat → Int} {n : Nat}
theorem Lie.num {a : Nat} {v : Nat} {c : UInt8} {l : List UInt8} (h : Lie f n a (dig v ++ c :: l)) (hv : v ≤ 100) {st most : Nat} (hm : (dig v).length ≤ most) (hd : ¬ dgV (c.toNat : Int) 10 < 10) : number f n st 10 most a = .ok ((v : Int), (c.toNat : Int)) (a + (dig v).length + 1) := by
  have hr := h.right.b0
  exact number_dec v hv hm hd (fun i x hi => h.left.2 i x hi) hr.2 hr.1
/-- Group number v once more. -/
theorem lex_back {a v : Nat} (h1 : 1 ≤ v) (h2 : v ≤ 20) (h : Lie f n a (backT (v : Int)).data.toList) : token f n a 0 = .ok (⟨9, 0, (v : Int), 0, [], false, 0, 0⟩, 0) (a + (backT (v : Int)).size) := by
  have e : (backT (v : Int)).data.toList = 92 :: 107 :: 123 :: (dig v ++ [125]) := by unfold backT; rw [data_app, data_app, dec_list v (by omega)]; rfl
  have es : (backT (v : Int)).size = (dig v).length + 4 := by
    have : (backT (v : Int)).data.toList.length = (backT (v : Int)).size := Array.length_toList
    rw [← this, e]; simp
  rw [e] at h
  rw [es]
  have h3 : Lie f n (a + 3) (dig v ++ [125]) := Lie.right (l := [92, 107, 123]) h
  refine esc_out h.b0.1 h.b1.1 h.b1.2 (by simp) ?_
  have key : escOut f n a 107 (a + 2) = back f n a (a + 2) := by unfold escOut; simp
  refine (show escOut f n a 107 (a + 2) = _ from key.trans ?_)
  have hn : number f n a 10 2 (a + 3) = .ok ((v : Int), 125) (a + 3 + (dig v).length + 1) := h3.num (by omega) (dig_two v (by omega)) (by decide)
  unfold back
  rw [octet_at f n h.b2.2 (show f (a + 2) = 123 from h.b2.1), bind_ok, if_neg (by decide), if_pos rfl, hn, bind_ok]
  show (if (125 : Int) = 125 ∧ 0 < (v : Int) then Out.ok _ _ else nope f a) = _
  rw [if_pos ⟨rfl, by omega⟩]
  rw [show a + 3 + (dig v).length + 1 = a + ((dig v).length + 4) by omega]
theorem count_tok {a : Nat} (h : f a = 123) (hl : a < n) {T : Tk} {b : Nat} (ho : counted f n a (a + 1) = .ok T b) : token f n a 0 = .ok (T, 0) b :=
  out_mark h (by decide) (by decide) hl (by decide) (by decide) (by unfold tok.mark; simp [ho])
theorem times_facts {x y : Int} (h : (timesT x y).size ≠ 0) : 0 ≤ x ∧ x ≤ 100 ∧ y ≤ 100 ∧ (y = -1 ∨ x ≤ y) := by
  by_cases hc : x < 0 ∨ (y ≠ -1 ∧ y < x) ∨ 100 < max x y
  · exfalso; apply h; unfold timesT; rw [if_pos hc]; rfl
  · omega
/-- A repetition. -/
theorem lex_rep {a : Nat} {x y m : Int} (hs : (timesT x y).size ≠ 0) (h0 : 0 ≤ m) (h2 : m ≤ 2) (h : Lie f n a ((timesT x y).data.toList ++ (textP m modeTexts).data.toList)) (hf : Fol f n (a + (timesT x y).data.toList.length + (textP m modeTexts).size)) :
    token f n a 0 = .ok (⟨6, m, x, y, [], false, 0, 0⟩, 0) (a + (timesT x y).data.toList.length + (textP m modeTexts).size) := by
  obtain ⟨x0, x1, y1, xy⟩ := times_facts hs
  have hR : ∀ (p q : Int), rep f n p q (a + (timesT x y).data.toList.length) = .ok ⟨6, m, p, q, [], false, 0, 0⟩ (a + (timesT x y).data.toList.length + (textP m modeTexts).size) := fun p q =>
    rep_mode m h0 h2 (fun i c hi => h.right.2 i c hi) (by have := h.right.1; rwa [show (textP m modeTexts).data.toList.length = (textP m modeTexts).size from Array.length_toList] at this) hf
  have hl := h.left
  obtain ⟨v, rfl⟩ : ∃ v : Nat, x = v := ⟨x.toNat, by omega⟩
  have nc : ¬ ((v : Int) < 0 ∨ (y ≠ -1 ∧ y < v) ∨ 100 < max (v : Int) y) := by omega
  have ht : timesT v y = if (v : Int) = 0 ∧ y = -1 then ⟨#[42]⟩ else if (v : Int) = 1 ∧ y = -1 then ⟨#[43]⟩ else if (v : Int) = 0 ∧ y = 1 then ⟨#[63]⟩ else if (v : Int) = y then (⟨#[123]⟩ ++ dec v) ++ ⟨#[125]⟩ else if y = -1 then (⟨#[123]⟩ ++ dec v) ++ ⟨#[44, 125]⟩ else (((⟨#[123]⟩ ++ dec v) ++ ⟨#[44]⟩) ++ dec y) ++ ⟨#[125]⟩ := by
    unfold timesT; rw [if_neg nc]
  by_cases c1 : (v : Int) = 0 ∧ y = -1
  · obtain ⟨q1, rfl⟩ := c1
    obtain rfl : v = 0 := by omega
    have e : timesT ((0 : Nat) : Int) (-1) = ⟨#[42]⟩ := by decide
    rw [e] at hl hR ⊢
    have hl : Lie f n a [42] := hl
    exact out_mark (x := 42) hl.b0.1 (by decide) (by decide) hl.b0.2 (by decide) (by decide) (by unfold tok.mark; simp; exact hR 0 (-1))
  by_cases c2 : (v : Int) = 1 ∧ y = -1
  · obtain ⟨q1, rfl⟩ := c2
    obtain rfl : v = 1 := by omega
    have e : timesT ((1 : Nat) : Int) (-1) = ⟨#[43]⟩ := by decide
    rw [e] at hl hR ⊢
    have hl : Lie f n a [43] := hl
    exact out_mark (x := 43) hl.b0.1 (by decide) (by decide) hl.b0.2 (by decide) (by decide) (by unfold tok.mark; simp; exact hR 1 (-1))
  by_cases c3 : (v : Int) = 0 ∧ y = 1
  · obtain ⟨q1, rfl⟩ := c3
    obtain rfl : v = 0 := by omega
    have e : timesT ((0 : Nat) : Int) 1 = ⟨#[63]⟩ := by decide
    rw [e] at hl hR ⊢
    have hl : Lie f n a [63] := hl
    exact out_mark (x := 63) hl.b0.1 (by decide) (by decide) hl.b0.2 (by decide) (by decide) (by unfold tok.mark; simp; exact hR 0 1)
  rw [if_neg c1, if_neg c2, if_neg c3] at ht
  by_cases c4 : (v : Int) = y
  · subst c4
    rw [if_pos rfl] at ht
    have e : (timesT (v : Int) (v : Int)).data.toList = 123 :: (dig v ++ [125]) := by rw [ht, data_app, data_app, dec_list v (by omega)]; rfl
    rw [e] at hl hR ⊢
    have h1 : Lie f n (a + 1) (dig v ++ [125]) := Lie.right (l := [123]) hl
    refine count_tok hl.b0.1 hl.b0.2 ?_
    unfold counted
    have hn : number f n a 10 3 (a + 1) = .ok ((v : Int), 125) (a + 1 + (dig v).length + 1) := h1.num (by omega) (dig_pos v).2 (by decide)
    rw [hn, bind_ok]
    show (if (125 : Int) = 44 ∧ _ then _ else if (125 : Int) = 44 then _ else if cntOk (v : Int) (v : Int) 125 then rep f n v v _ else nope f a) = _
    rw [if_neg (fun h => by have := h.1; omega), if_neg (by decide), if_pos ⟨rfl, .inr (by omega), by omega, by omega⟩]
    have := hR v v
    simp only [List.length_cons, List.length_append, List.length_nil] at this ⊢
    rw [show a + 1 + (dig v).length + 1 = a + ((dig v).length + (0 + 1) + 1) by omega]
    exact this
  rw [if_neg c4] at ht
  by_cases c5 : y = -1
  · subst c5
    rw [if_pos rfl] at ht
    have e : (timesT (v : Int) (-1)).data.toList = 123 :: (dig v ++ [44, 125]) := by rw [ht, data_app, data_app, dec_list v (by omega)]; rfl
    rw [e] at hl hR ⊢
    have h1 : Lie f n (a + 1) (dig v ++ [44, 125]) := Lie.right (l := [123]) hl
    have h3 : Lie f n (a + 1 + (dig v).length) [44, 125] := h1.right
    refine count_tok hl.b0.1 hl.b0.2 ?_
    unfold counted
    have hn : number f n a 10 3 (a + 1) = .ok ((v : Int), 44) (a + 1 + (dig v).length + 1) := h1.num (by omega) (dig_pos v).2 (by decide)
    rw [hn, bind_ok]
    show (if (44 : Int) = 44 ∧ at_ f n (a + 1 + (dig v).length + 1) 125 = true then (if cntOk (v : Int) (-1) 125 then rep f n v (-1) _ else nope f a) else _) = _
    rw [if_pos ⟨rfl, at_is h3.b1.1 h3.b1.2⟩, if_pos ⟨rfl, .inl rfl, by omega, by omega⟩]
    have := hR v (-1)
    simp only [List.length_cons, List.length_append, List.length_nil] at this ⊢
    rw [show a + 1 + (dig v).length + 1 + 1 = a + ((dig v).length + (0 + 1 + 1) + 1) by omega]
    exact this
  rw [if_neg c5] at ht
  obtain ⟨u, rfl⟩ : ∃ u : Nat, y = u := ⟨y.toNat, by omega⟩
  have e : (timesT (v : Int) (u : Int)).data.toList = 123 :: (dig v ++ 44 :: (dig u ++ [125])) := by rw [ht, data_app, data_app, data_app, data_app, dec_list v (by omega), dec_list u (by omega)]; simp
  rw [e] at hl hR ⊢
  have h1 : Lie f n (a + 1) (dig v ++ 44 :: (dig u ++ [125])) := Lie.right (l := [123]) hl
  have h3 : Lie f n (a + 1 + (dig v).length) (44 :: (dig u ++ [125])) := h1.right
  have h4 : Lie f n (a + 1 + (dig v).length + 1) (dig u ++ [125]) := Lie.right (l := [44]) h3
  have hd : f (a + 1 + (dig v).length + 1) ≠ 125 := by
    have := h4.2 0 ((dig u).getD 0 0) (by unfold dig; (repeat' split) <;> simp)
    rw [Nat.add_zero] at this
    rw [this]
    unfold dig
    split
    · simp [Nat.mod_eq_of_lt (show 48 + u < 256 by omega)]; omega
    · split
      · simp [Nat.mod_eq_of_lt (show 48 + u / 10 < 256 by omega)]; omega
      · simp
  refine count_tok hl.b0.1 hl.b0.2 ?_
  unfold counted
  have hn : number f n a 10 3 (a + 1) = .ok ((v : Int), 44) (a + 1 + (dig v).length + 1) := h1.num (by omega) (dig_pos v).2 (by decide)
  have hn2 : number f n a 10 3 (a + 1 + (dig v).length + 1) = .ok ((u : Int), 125) (a + 1 + (dig v).length + 1 + (dig u).length + 1) := h4.num (by omega) (dig_pos u).2 (by decide)
  rw [hn, bind_ok]
  show (if (44 : Int) = 44 ∧ at_ f n (a + 1 + (dig v).length + 1) 125 = true then _ else if (44 : Int) = 44 then (number f n a 10 3 (a + 1 + (dig v).length + 1)).bind _ else _) = _
  rw [if_neg (fun h => by have := h.2; rw [at_ne hd] at this; cases this), if_pos rfl, hn2, bind_ok]
  show (if cntOk (v : Int) (u : Int) 125 then rep f n v u _ else nope f a) = _
  rw [if_pos ⟨rfl, .inr (by omega), by omega, by omega⟩]
  have := hR v u
  simp only [List.length_cons, List.length_append, List.length_nil] at this ⊢
  rw [show a + 1 + (dig v).length + 1 + (dig u).length + 1 = a + ((dig v).length + ((dig u).length + (0 + 1) + 1) + 1) by omega]
  exact this
end
end Go.Proofs.YtbdediacfckpcaaGreatDoor.tre
end

section
/- The pieces of a pattern, read as tokens where they stand: properties, groups with names. Plain mathematics. -/
set_option linter.unusedVariables false
set_option linter.unusedSimpArgs false
namespace Go.Proofs.YtbdediacfckpcaaGreatDoor.tre
open Go.RowKit nod tok

theorem sfB_lie (X : ByteArray) : Lie (sfB X) X.size 0 X.data.toList := ⟨by rw [show X.data.toList.length = X.size from Array.length_toList]; omega, fun i x hi => by
  rw [Nat.zero_add]; unfold sfB; rw [List.getD_eq_getElem?_getD, hi]; rfl⟩
/-- A text that is one token of a name. -/
theorem named_one {X m : ByteArray} (h : namedB X m = true) : ∃ t, token (sfB X) X.size 0 0 = .ok t X.size ∧ lin.BA t.1.name = m := by
  unfold namedB at h
  simp only [Bool.and_eq_true, beq_iff_eq, decide_eq_true_eq] at h
  obtain ⟨h1, h2⟩ := h
  by_cases hn : X.size ≤ 2000
  · rw [scanL_A _ _ hn] at h1 h2
    by_cases h0 : 0 < X.size
    · cases ht : token (sfB X) X.size 0 0 with
      | no c p => rw [scanA_no _ _ ht h0] at h2; simp at h2
      | ok t a =>
        rw [scanA_ok _ _ ht h0] at h1 h2
        simp only [List.map_cons, List.cons.injEq, List.map_eq_nil_iff] at h1 h2
        have hv := token_val _ _ ht (by omega)
        refine ⟨t, ?_, h2.1⟩
        by_cases ha : a < X.size
        · exfalso
          cases hu : token (sfB X) X.size a t.2 with
          | no c p =>
            rw [scanA_no _ _ hu ha] at h1
            have := token_in (sfB X) X.size a t.2 (by omega)
            rw [hu] at this
            exact this.1 h1
          | ok u b => rw [scanA_ok _ _ hu ha] at h2; simp at h2
        · rw [show X.size = a by omega]
    · exfalso
      have e : X.size = 0 := by omega
      rw [e, scanA_end] at h2
      simp at h2
  · exfalso
    unfold scanL at h1
    rw [if_neg hn] at h1
    revert h1; decide
section
variable {f : Nat → Int} {n : Nat}
theorem nmR_zero (st b a : Nat) : nmR f n st b 0 a = (octet f n a).bind fun c a' => if c = 62 ∧ b < a then .ok (tok.bytes f b a) a' else nope f st := by rw [nmR]
theorem nmR_succ (st b left a : Nat) : nmR f n st b (left + 1) a = (octet f n a).bind fun c a' => if c = 62 ∧ b < a then .ok (tok.bytes f b a) a' else if nmC c (decide (a = b)) = true then nmR f n st b left a' else nope f st := by rw [nmR]
theorem nmC_62 (first : Bool) : nmC 62 first = false := by cases first <;> decide
theorem nmR_conv {st b : Nat} {s : List UInt8} {e : Nat} : ∀ (left a : Nat), nmR f n st b left a = .ok s e → ∃ l, e = a + l + 1 ∧ a + l < n ∧ f (a + l) = 62 ∧ l ≤ left ∧ b < a + l ∧ s = tok.bytes f b (a + l) ∧ ∀ i, i < l → nmC (f (a + i)) (decide (a + i = b)) = true := by
  intro left
  induction left with
  | zero =>
    intro a h
    rw [nmR_zero] at h
    by_cases ha : a < n
    · rw [octet_at f n ha rfl, bind_ok] at h
      split at h
      · rename_i hc
        cases h
        exact ⟨0, rfl, ha, hc.1, Nat.le_refl _, by omega, rfl, fun i hi => by omega⟩
      · cases h
    · unfold octet at h; rw [if_neg ha] at h; cases h
  | succ left ih =>
    intro a h
    rw [nmR_succ] at h
    by_cases ha : a < n
    · rw [octet_at f n ha rfl, bind_ok] at h
      split at h
      · rename_i hc
        cases h
        exact ⟨0, rfl, ha, hc.1, Nat.zero_le _, by omega, rfl, fun i hi => by omega⟩
      · split at h
        · rename_i hm
          obtain ⟨l, h1, h2, h3, h4, h5, h6, h7⟩ := ih (a + 1) h
          refine ⟨l + 1, by omega, by omega, by rw [← h3]; congr 1; omega, by omega, by omega, by rw [h6]; congr 1; omega, fun i hi => ?_⟩
          match i with
          | 0 => exact hm
          | i + 1 => have := h7 i (by omega); rw [show a + 1 + i = a + (i + 1) by omega] at this; exact this
        · cases h
    · unfold octet at h; rw [if_neg ha] at h; cases h
theorem nmR_ok {st b : Nat} : ∀ (l left a : Nat), l ≤ left → a + l < n → f (a + l) = 62 → b < a + l → (∀ i, i < l → nmC (f (a + i)) (decide (a + i = b)) = true) → nmR f n st b left a = .ok (tok.bytes f b (a + l)) (a + l + 1) := by
  intro l
  induction l with
  | zero =>
    intro left a _ hn h62 hb _
    rw [Nat.add_zero] at hn h62 hb ⊢
    cases left with
    | zero => rw [nmR_zero, octet_at f n hn h62, bind_ok, if_pos ⟨rfl, hb⟩]
    | succ q => rw [nmR_succ, octet_at f n hn h62, bind_ok, if_pos ⟨rfl, hb⟩]
  | succ l ih =>
    intro left a hl hn h62 hb hc
    obtain ⟨q, rfl⟩ : ∃ q, left = q + 1 := ⟨left - 1, by omega⟩
    have h0 := hc 0 (by omega)
    rw [Nat.add_zero] at h0
    have hne : ¬ (f a = 62 ∧ b < a) := fun h => by rw [h.1, nmC_62] at h0; cases h0
    rw [nmR_succ, octet_at f n (by omega) rfl, bind_ok, if_neg hne, if_pos h0]
    rw [ih q (a + 1) (by omega) (by omega) (by rw [← h62]; congr 1; omega) (by omega) (fun i hi => by have := hc (i + 1) (by omega); rwa [show a + (i + 1) = a + 1 + i by omega] at this)]
    rw [show a + 1 + l = a + (l + 1) by omega]
theorem bytes_lie {a : Nat} {l : List UInt8} (h : Lie f n a l) : tok.bytes f a (a + l.length) = l := by
  unfold tok.bytes
  apply List.ext_getElem?
  intro i
  rw [Nat.add_sub_cancel_left, List.getElem?_map]
  by_cases hi : i < l.length
  · rw [List.getElem?_range hi]
    have := h.2 i _ (List.getElem?_eq_getElem hi)
    rw [List.getElem?_eq_getElem hi]
    simp [this]
  · rw [List.getElem?_eq_none (by simpa using hi), List.getElem?_eq_none (by omega)]; rfl
/-- A group's name, as a pattern may say it. -/
def nameOk (l : List UInt8) : Prop := 0 < l.length ∧ l.length ≤ 20 ∧ ∀ i x, l[i]? = some x → nmC (x.toNat : Int) (decide (i = 0)) = true
theorem nameOk_of {m : ByteArray} (h : namedB (openN m) m = true) (h0 : m.size ≠ 0) : nameOk m.data.toList := by
  obtain ⟨t, ht, hm⟩ := named_one h
  have hl := sfB_lie (openN m)
  have e : (openN m).data.toList = 40 :: 63 :: 60 :: (m.data.toList ++ [62]) := by unfold openN; rw [data_app, data_app]; rfl
  have es : (openN m).size = m.data.toList.length + 4 := by
    have : (openN m).data.toList.length = (openN m).size := Array.length_toList
    rw [← this, e]; simp
  rw [e] at hl
  generalize sfB (openN m) = F at *
  generalize (openN m).size = N at *
  have hr : Lie F N 3 (m.data.toList ++ [62]) := Lie.right (l := [40, 63, 60]) hl
  have hlen : 0 < m.data.toList.length := by rw [show m.data.toList.length = m.size from Array.length_toList]; omega
  -- the token
  have hop : token F N 0 0 = (openLeft F N 0 3).with_ 0 := by
    rw [tokLow 0 (show F 0 = 40 from hl.b0.1) (by decide) (by decide) hl.b0.2 (by decide), if_neg (by omega)]
    unfold outside
    rw [if_neg (by decide)]
    congr 1
    unfold tok.mark
    simp
    unfold open_
    rw [at_is (show F 1 = 63 from hl.b1.1) hl.b1.2, if_pos rfl, octet_at F N hl.b2.2 (show F 2 = 60 from hl.b2.1), bind_ok]
    simp
  rw [hop] at ht
  unfold openLeft at ht
  have hnn : ∀ o : Tk, o.name = [] → lin.BA o.name ≠ m := fun o ho hh => by rw [ho] at hh; rw [← hh] at hlen; simp at hlen; exact absurd hlen (by decide)
  split at ht
  · cases ht; exact absurd hm (hnn _ rfl)
  split at ht
  · cases ht; exact absurd hm (hnn _ rfl)
  cases hnm : name F N 0 3 with
  | no c p => rw [hnm] at ht; cases ht
  | ok s b =>
    rw [hnm] at ht
    cases ht
    obtain ⟨l, h1, h2, h3, h4, h5, h6, h7⟩ := nmR_conv 20 3 hnm
    have hml : l = m.data.toList.length := by omega
    subst hml
    refine ⟨hlen, h4, fun i x hi => ?_⟩
    have hil := (List.getElem?_eq_some_iff.1 hi).1
    have := h7 i hil
    rw [hr.left.2 i x hi] at this
    have e0 : decide (3 + i = 3) = decide (i = 0) := decide_eq_decide.2 (by omega)
    rwa [e0] at this
/-- A group with a name. -/
theorem lex_named {a : Nat} {m : ByteArray} (hk : nameOk m.data.toList) (h : Lie f n a (openN m).data.toList) : token f n a 0 = .ok (⟨3, 2, 0, 0, m.data.toList, false, 0, 0⟩, 0) (a + (openN m).size) := by
  have e : (openN m).data.toList = 40 :: 63 :: 60 :: (m.data.toList ++ [62]) := by unfold openN; rw [data_app, data_app]; rfl
  have es : (openN m).size = m.data.toList.length + 4 := by
    have : (openN m).data.toList.length = (openN m).size := Array.length_toList
    rw [← this, e]; simp
  rw [e] at h
  rw [es]
  generalize m.data.toList = l at *
  have hr : Lie f n (a + 3) (l ++ [62]) := Lie.right (l := [40, 63, 60]) h
  obtain ⟨x, hx⟩ : ∃ x, l[0]? = some x := ⟨_, List.getElem?_eq_getElem hk.1⟩
  have hf0 : f (a + 3) = x.toNat := hr.left.2 0 x hx
  have hx0 := hk.2.2 0 x hx
  have n61 : f (a + 3) ≠ 61 := by rw [hf0]; intro hh; rw [hh] at hx0; revert hx0; decide
  have n33 : f (a + 3) ≠ 33 := by rw [hf0]; intro hh; rw [hh] at hx0; revert hx0; decide
  refine open_tok h.b0.1 h.b0.2 ?_
  unfold open_
  rw [at_is (show f (a + 1) = 63 from h.b1.1) h.b1.2, if_pos rfl, octet_at f n h.b2.2 (show f (a + 1 + 1) = 60 from h.b2.1), bind_ok]
  simp only [show ¬ (60 : Int) = 58 by decide, show ¬ (60 : Int) = 61 by decide, show ¬ (60 : Int) = 33 by decide, show ¬ (60 : Int) = 62 by decide, if_false, if_true]
  unfold openLeft
  rw [at_ne (c := 61) n61, if_neg (by simp), at_ne (c := 33) n33, if_neg (by simp)]
  have hb := hr.right.b0
  have hnm : name f n a (a + 3) = .ok l (a + 3 + l.length + 1) := by
    unfold name
    rw [nmR_ok l.length 20 (a + 3) hk.2.1 hb.2 hb.1 (by have := hk.1; omega) (fun i hi => by
      have := hk.2.2 i _ (List.getElem?_eq_getElem hi)
      rw [← hr.left.2 i _ (List.getElem?_eq_getElem hi)] at this
      have e0 : decide (a + 3 + i = a + 3) = decide (i = 0) := decide_eq_decide.2 (by omega)
      rwa [e0]), bytes_lie hr.left]
  show (name f n a (a + 3)).bind _ = _
  rw [hnm, bind_ok]
  rw [show a + 3 + l.length + 1 = a + (l.length + 4) by omega]
end
end Go.Proofs.YtbdediacfckpcaaGreatDoor.tre
end
