/- bytes.HasPrefix, bytes.CutPrefix; audit.join. -/
import Derived.Test.YtpdkdfgcnhcmkaaAudArg
set_option linter.unusedVariables false
set_option linter.unusedSimpArgs false
namespace Go.Proofs.Ytpdkdfgcnhcmkaa.aud
open Go.RowKit
open Go.Proofs.Ytpdkdfgcnhcmkaa.edt

theorem bytes_inj : ∀ (xs ys : List Int), (∀ x ∈ xs, 0 ≤ x ∧ x ≤ 255) → (∀ x ∈ ys, 0 ≤ x ∧ x ≤ 255) → (Lib.bytesOf xs == Lib.bytesOf ys) = decide (xs = ys)
  | [], [], _, _ => rfl
  | [], y :: ys, _, _ => rfl
  | x :: xs, [], _, _ => rfl
  | x :: xs, y :: ys, hx, hy => by
    have ih := bytes_inj xs ys (fun z hz => hx z (List.mem_cons_of_mem _ hz)) (fun z hz => hy z (List.mem_cons_of_mem _ hz))
    have h1 := hx x List.mem_cons_self
    have h2 := hy y List.mem_cons_self
    show ((UInt8.ofNat x.toNat :: Lib.bytesOf xs) == (UInt8.ofNat y.toNat :: Lib.bytesOf ys)) = _
    rw [List.cons_beq_cons, ih, ofNat_eq h1.1 h1.2 h2.1 h2.2]
    simp
theorem pre_bs {w : World} {ao : Option Addr} {n cap : Nat} {l : List Int} (h : BS w ao n cap l) (m : Nat) (hm : m ≤ n) : BS w ao m cap (l.take m) := by
  have h1 := h.len
  have h2 := h.nc
  refine ⟨by rw [List.length_take]; omega, by omega, h.cm, h.nil, fun i => ?_, ?_⟩
  · have := getD_sub l 0 m i
    rw [List.drop_zero, Nat.zero_add] at this
    rw [this]
    split
    · exact h.rg _
    · omega
  · rcases Nat.eq_zero_or_pos m with h0 | h0
    · exact .inl h0
    · obtain ⟨b, off, rfl, hc⟩ := h.at_ (by omega)
      refine .inr ⟨b, off, rfl, fun i hi => ?_⟩
      have := getD_sub l 0 m i
      rw [List.drop_zero, Nat.zero_add, if_pos hi] at this
      rw [this]
      exact hc i (by omega)
theorem hasp_any (ao : Option Addr) (n cap : Nat) (l : List Int) (pa : Option Addr) (m pc : Nat) (p : List Int) (w : World) (hB : BS w ao n cap l) (hP : BS w pa m pc p) :
    Calls Try.prog 29 #[.slice ao n cap, .slice pa m pc] w fun e w' => e = .returned (.bool (decide (m ≤ n) && decide (l.take m = p))) ∧ w' = w := by
  have h1 := hB.nc
  have h2 := hB.cm
  have h3 := hP.nc
  have h4 := hP.cm
  by_cases hmn : m ≤ n
  · have E := beq_any (.slice ao m cap) (.slice pa m pc) (l.take m) p w (pre_bs hB m hmn).bts hP.bts
    rw [bytes_inj _ _ (mem_range (pre_bs hB m hmn).rg) (mem_range hP.rg)] at E
    rw [decide_eq_true hmn, Bool.true_and]
    have hmn' : (m : Int) ≤ (n : Int) := by omega
    clear hB hP
    generalize decide (l.take m = p) = R at *
    go_enter Try.func29, Try.ntmps29
    go_wp2_with fail
    refine E.mono ?_
    rintro e w1 ⟨rfl, hw⟩
    subst hw
    clear E
    go_wp2
    go_ret
    exact ⟨rfl, rfl⟩
  · rw [decide_eq_false hmn, Bool.false_and]
    have hmn' : (n : Int) < (m : Int) := by omega
    go_enter Try.func29, Try.ntmps29
    go_wp2
    go_ret
    exact ⟨rfl, rfl⟩
theorem cut_any (ao : Option Addr) (n cap : Nat) (l : List Int) (pa : Option Addr) (m pc : Nat) (p : List Int) (w : World) (hB : BS w ao n cap l) (hP : BS w pa m pc p) :
    Calls Try.prog 25 #[.slice ao n cap, .slice pa m pc] w fun e w' => w' = w ∧ ((m ≤ n ∧ l.take m = p ∧ ∃ a c, e = .returned (.tuple #[.slice a (n - m) c, .bool true]) ∧ BS w a (n - m) c (l.drop m)) ∨ ((¬ (m ≤ n ∧ l.take m = p)) ∧ e = .returned (.tuple #[.slice ao n cap, .bool false]))) := by
  have H := hasp_any ao n cap l pa m pc p w hB hP
  have h1 := hB.nc
  have h2 := hB.cm
  have h3 := hP.nc
  have h4 := hP.cm
  by_cases hc : m ≤ n ∧ l.take m = p
  · rw [decide_eq_true hc.1, decide_eq_true hc.2, Bool.true_and] at H
    have hS := hB.sub m n hc.1 (Nat.le_refl _)
    rw [List.take_of_length_le (by rw [List.length_drop, hB.len]; exact Nat.le_refl _)] at hS
    have HS : Hid (BS w (if cap = m then ao else ao.map (fun z => z.add m)) (n - m) (cap - m) (l.drop m)) := hS
    have HC : Hid (m ≤ n ∧ l.take m = p) := hc
    have hmn : (m : Int) ≤ (n : Int) := by omega
    clear hB hP hc hS
    go_enter Try.func25, Try.ntmps25
    go_wp2_with fail
    refine H.mono ?_
    rintro e w1 ⟨rfl, hw⟩
    subst hw
    clear H
    go_wp2
    all_goals
      go_ret2
      refine ⟨rfl, .inl ⟨HC.out.1, HC.out.2, _, _, rfl, ?_⟩⟩
      have h9 := HS.out
      first | exact h9 | (rw [if_pos (by assumption), show cap - m = 0 from by omega] at h9; exact h9) | (rw [if_neg (by assumption)] at h9; exact h9)
  · have e1 : (decide (m ≤ n) && decide (l.take m = p)) = false := by
      rw [Bool.eq_false_iff]; intro h; simp at h; exact hc h
    rw [e1] at H
    have HC : Hid (¬ (m ≤ n ∧ l.take m = p)) := hc
    clear hB hP hc e1
    go_enter Try.func25, Try.ntmps25
    go_wp2_with fail
    refine H.mono ?_
    rintro e w1 ⟨rfl, hw⟩
    subst hw
    clear H
    go_wp2
    go_ret2
    exact ⟨rfl, .inr ⟨HC.out, rfl⟩⟩
theorem flat_drop (ps : List (List Int)) (k : Nat) (h : k < ps.length) (r : List Int) : decide ((ps.drop k).flatten = r) = (decide ((ps.getD k []).length ≤ r.length ∧ r.take (ps.getD k []).length = ps.getD k []) && decide ((ps.drop (k + 1)).flatten = r.drop (ps.getD k []).length)) := by
  rw [drop_cons ps k [] h, List.flatten_cons, Bool.eq_iff_iff]
  simp only [Bool.and_eq_true, decide_eq_true_eq]
  constructor
  · intro e
    subst e
    refine ⟨⟨by simp, by simp⟩, by simp⟩
  · rintro ⟨⟨h1, h2⟩, h3⟩
    rw [h3]
    conv => lhs; rw [← h2]
    rw [h2]
    have := List.take_append_drop (ps.getD k []).length r
    rw [h2] at this
    exact this
set_option maxHeartbeats 1000000 in
theorem join_any (ap : Option Addr) (N cp : Nat) (ps : List (List Int)) (ao : Option Addr) (n cap : Nat) (b : List Int) (w : World) (hP : TV w ap N cp ps) (hB : BS w ao n cap b) :
    Calls Try.prog 22 #[.slice ap N cp, .slice ao n cap] w fun e w' => e = .returned (.bool (decide (ps.flatten = b))) ∧ w' = w := by
  have h1 := hP.nc
  have h2 := hP.cm
  have h3 := hB.nc
  have h4 := hB.cm
  have HP : Hid (TV w ap N cp ps) := hP
  have HB : Hid (BS w ao n cap b) := hB
  clear hP hB
  go_enter Try.func22, Try.ntmps22
  go_wp2
  go_loopw [1, 11] (fun bv i wr => ∃ (k : Nat) (a : Option Addr) (m c : Nat) (r : List Int), k ≤ N ∧ i = .int .i64 k ∧ bv = .slice a m c ∧ wr = w ∧ Hid (BS w a m c r) ∧ Hid (decide ((ps.drop k).flatten = r) = decide (ps.flatten = b))) (fun _ i _ => N - (intOf i).toNat)
  case atStart => exact ⟨0, ao, n, cap, b, Nat.zero_le _, rfl, rfl, rfl, HB, rfl⟩
  case round =>
    obtain ⟨k, a, m, c, r, hk, rfl, rfl, hw, BR, HK⟩ := hrel
    subst hw
    have h5 := BR.out.nc
    have h6 := BR.out.cm
    by_cases hlt : k < N
    · obtain ⟨bb, off, rfl, hc⟩ := HP.out.at_ (by omega)
      obtain ⟨pa, pm, pc, c0, hs⟩ := hc k hlt
      have HK2 := HK.out
      rw [flat_drop ps k (by rw [HP.out.len]; exact hlt) r] at HK2
      have C := cut_any a m c r pa pm pc (ps.getD k []) wr BR.out hs
      have hpl := hs.len
      rw [hpl, BR.out.len] at HK2
      have HK3 : Hid _ := HK2
      generalize ps.getD k [] = p at *
      clear hc hs HK HK2
      go_wp2_with fail
      refine C.mono ?_
      rintro e w1 ⟨hw1, ⟨q1, q2, a', c', rfl, hS⟩ | ⟨q1, rfl⟩⟩
      · subst hw1
        have HK4 : Hid (decide ((ps.drop (k + 1)).flatten = r.drop pm) = decide (ps.flatten = b)) := by
          have := HK3.out
          rw [decide_eq_true (⟨q1, q2⟩ : pm ≤ m ∧ r.take pm = p), Bool.true_and] at this
          exact this
        have HS2 : Hid (BS w1 a' (m - pm) c' (r.drop pm)) := hS
        clear C hS q2 HK3
        go_wp2
        go_roundw
        case rel => exact ⟨k + 1, a', m - pm, c', r.drop pm, by omega, by go_num, rfl, by trivial, HS2, HK4⟩
        case measure => simp [intOf]; omega
      · subst hw1
        have e9 : Hid (decide (ps.flatten = b) = false) := by
          have := HK3.out
          rw [decide_eq_false q1, Bool.false_and] at this
          exact this.symm
        clear C q1 HK3
        go_wp2
        go_ret
        exact ⟨ret_bool e9.out.symm, rfl⟩
    · obtain rfl : k = N := by omega
      have e9 : Hid (decide (ps.flatten = b) = decide (m = 0)) := by
        have := HK.out
        rw [List.drop_eq_nil_of_le (by rw [HP.out.len]; exact Nat.le_refl _)] at this
        rw [← this]
        have hl := BR.out.len
        show _ = _
        rw [decide_eq_decide]
        simp only [List.flatten_nil]
        constructor
        · intro e; subst e; simpa using hl.symm
        · intro e; exact (List.eq_nil_of_length_eq_zero (by omega)).symm
      clear HK
      by_cases hm0 : m = 0
      · subst hm0
        go_wp2
        go_ret
        exact ⟨ret_bool (by rw [e9.out]; rfl), rfl⟩
      · rw [decide_eq_false hm0] at e9
        have hm1 : ((m : Int) == 0) = false := by simpa using hm0
        go_wp2
        go_ret
        exact ⟨ret_bool e9.out.symm, rfl⟩
end Go.Proofs.Ytpdkdfgcnhcmkaa.aud
