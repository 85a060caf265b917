/- Texts that the proof leans on, one behind the other. -/
import Derived.Test.YtlgkfnecahgedaaGreatDoorBdTok24
import Derived.Test.YtlgkfnecahgedaaGreatDoorBdTok25

section
/- TokenAhead: the walk. -/
set_option linter.unusedVariables false
set_option linter.unusedSimpArgs false
namespace Go.Proofs.YtlgkfnecahgedaaGreatDoor.tok
open Go.RowKit
open lin (BA Turns)

theorem rem_at (a : Int) (M : Nat) (hM : 0 < M) : ∃ A : Nat, (IntKind.u64.wrap a).tmod (M : Int) = (A : Int) ∧ A < M := by
  have h0 : 0 ≤ IntKind.u64.wrap a := by simp only [IntKind.wrap, IntKind.signed, IntKind.bits]; first | omega | (simp; omega)
  have h1 := Int.tmod_nonneg (M : Int) h0
  have h2 := Int.tmod_lt_of_pos (IntKind.u64.wrap a) (show (0 : Int) < (M : Int) by omega)
  exact ⟨((IntKind.u64.wrap a).tmod (M : Int)).toNat, by omega, by omega⟩
theorem isB_less {w : World} {ao : Option Addr} {n e : Nat} {f : Nat → Int} (h : utf.IsB w ao n f) (he : e ≤ n) : utf.IsB w ao e f := by
  rcases h with h | ⟨b, off, e1, h⟩
  · exact .inl (by omega)
  · exact .inr ⟨b, off, e1, fun i hi => h i (by omega)⟩
set_option maxHeartbeats 4000000 in
set_option maxRecDepth 100000 in
theorem ahead_walk (ao : Option Addr) (n cap : Nat) (f : Nat → Int) (x : Int) (w : World) (hB : utf.IsB w ao n f) (hm : utf.Marks w) (hf : ∀ i, 0 ≤ f i ∧ f i ≤ 255) (hc : n ≤ cap) (hcm : cap ≤ 9223372036854775807) :
    Calls Tryz.prog 6 #[.slice ao n cap, .int .i64 x] w fun e w' => e = .returned (.bool true) ∧ Below w.heap.size w w' := by
  have HB : Hid (utf.IsB w ao n f) := hB
  have HM : Hid (utf.Marks w) := hm
  have C1 := scan_any ao n cap f w hB hm hf hc hcm
  have HRC : Hid (∀ W, utf.IsB W ao n f → Calls Tryz.prog 10 #[.slice ao n cap] W fun e w' => ∃ tv, e = .returned (.tuple #[tv, .agg #[.int .i64 (scanL f n).2.1, .int .i64 (scanL f n).2.2]]) ∧ w'.ownsRow W.heap.size 32 8 tv (scanL f n).1.length (flatT (scanL f n).1) ∧ Below W.heap.size W w') := fun W h1 => rscan_any ao n cap f W h1 hf hc hcm
  have HSC : Hid (∀ (e : Nat) W, e ≤ n → utf.IsB W ao e f → utf.Marks W → Calls Tryz.prog 9 #[.slice ao e cap] W fun r w' => ∃ tv, r = .returned (.tuple #[tv, .agg #[.int .i64 (scanL f e).2.1, .int .i64 (scanL f e).2.2]]) ∧ w'.ownsRow W.heap.size 32 8 tv (scanL f e).1.length (flatT (scanL f e).1) ∧ Below W.heap.size W w') := fun e W he h1 h2 => scan_any ao e cap f W h1 h2 hf (by omega) hcm
  have HCT : Hid (∀ (i : Nat) (t : Tk), (scanL f n).1[i]? = some t → n ≤ 2000 ∧ t.e ≤ n ∧ i ≤ (scanL f t.e).1.length ∧ (scanL f t.e).1.take i = (scanL f n).1.take i) := fun i t => scanL_cut f n i t
  have hLs := scanL_small f n
  obtain ⟨⟨L, q, p⟩, hQ⟩ : ∃ Q, scanL f n = Q := ⟨_, rfl⟩
  rw [hQ] at C1 HRC HCT hLs
  simp only [] at C1 HRC HCT hLs
  clear hB hm hf hQ
  go_enter Tryz.func6, Tryz.ntmps6
  go_wp2_with fail
  refine C1.mono ?_
  rintro e w1 ⟨v1, rfl, ho1, hb1⟩
  clear C1
  obtain ⟨ta, tc, rfl, htc, hv⟩ := tok_view ho1
  obtain ⟨W1, hW1⟩ : ∃ W, w1.alloc (.cells #[.int .i64 q, .int .i64 (p : Int)] 27) = W := ⟨_, rfl⟩
  have b1 : Below w1.heap.size w1 W1 := by rw [← hW1]; exact (Below.refl _ _).alloc (Nat.le_refl _) _
  have HB1 : Hid (Below w.heap.size w W1) := hb1.trans (b1.mono hb1.size)
  have HBW : Hid (Below w1.heap.size w1 W1) := b1
  clear ho1 hb1 b1
  rcases Nat.eq_zero_or_pos L.length with h0 | h0
  · obtain rfl := List.eq_nil_of_length_eq_zero h0
    have C3 := HRC.out W1 (HB.out.below HB1.out)
    clear hv HCT HSC HRC h0
    go_wp2_with fail
    clear hW1
    refine C3.mono ?_
    rintro e w3 ⟨v2, rfl, ho3, hb3⟩
    clear C3
    obtain ⟨ta2, tc2, rfl, -, -⟩ := tok_view ho3
    obtain ⟨W3, hW3⟩ : ∃ W, w3.alloc (.cells #[.int .i64 q, .int .i64 (p : Int)] 27) = W := ⟨_, rfl⟩
    have b3 : Below w3.heap.size w3 W3 := by rw [← hW3]; exact (Below.refl _ _).alloc (Nat.le_refl _) _
    have HB3 : Hid (Below w.heap.size w W3) := (HB1.out.trans (hb3.mono HB1.out.size)).trans (b3.mono (Nat.le_trans HB1.out.size hb3.size))
    have AW := awake_any W3 (HM.out.below HB3.out)
    clear ho3 hb3 b3
    go_wp2_with fail
    clear hW3
    refine AW.mono ?_
    rintro e w' ⟨rfl, hbel⟩
    go_wp2
    go_ret
    exact ⟨rfl, HB3.out.trans (hbel.mono HB3.out.size)⟩
  · obtain ⟨A, hA, hAL⟩ := rem_at x L.length h0
    obtain ⟨g, rfl, hg1, hg2, hat⟩ := hv h0
    obtain ⟨t, ht⟩ : ∃ t, L[A]? = some t := ⟨L[A], by simp [hAL]⟩
    obtain ⟨hn2, hte, hil, htk⟩ := HCT.out A t ht
    have AT := ((hat A t ht).below HBW.out).c7
    have HAT : Hid (∀ i t, L[i]? = some t → TkAt w1 g (i * 8) t) := hat
    obtain ⟨E, hE⟩ : ∃ E, t.e = E := ⟨_, rfl⟩
    rw [hE] at AT hte hil htk
    have C2 := HSC.out E W1 hte (isB_less (HB.out.below HB1.out) hte) (HM.out.below HB1.out)
    obtain ⟨⟨M, q2, p2⟩, hQ2⟩ : ∃ Q, scanL f E = Q := ⟨_, rfl⟩
    have hMs := scanL_small f E
    rw [hQ2] at C2 hil htk hMs
    simp only [] at C2 hil htk hMs
    have HTK : Hid (M.take A = L.take A) := htk
    have HLN : Hid (L.length ≤ 2000) := hLs
    clear hat ht hE htk hQ2 HSC HRC HCT
    have l0 : ¬ (L.length : Int) = 0 := by omega
    have l00 : ((L.length : Int) == 0) = false := by rw [beq_eq_false_iff_ne]; omega
    have l1 : IntKind.u64.wrap (L.length : Int) = (L.length : Int) := by simp only [IntKind.wrap, IntKind.signed, IntKind.bits]; first | omega | (simp; omega)
    have l2 : IntKind.i64.wrap (A : Int) = (A : Int) := by rw [IntKind.wrap_i64]; omega
    have l3 : IntKind.i64.wrap (1 + (A : Int)) = 1 + (A : Int) := by rw [IntKind.wrap_i64]; omega
    have l4 : IntKind.i64.wrap (1 + (A : Int) - 1) = (A : Int) := by rw [IntKind.wrap_i64]; omega
    have l5 : (A : Int) < (L.length : Int) := by omega
    have l6 : (0 : Int) ≤ (A : Int) := by omega
    have l7 : (E : Int) ≤ (cap : Int) := by omega
    have l8 : (0 : Int) ≤ (E : Int) := by omega
    have hne : ¬ g = w1.heap.size := by omega
    go_wp2_with fail
    clear hW1 AT
    refine C2.mono ?_
    rintro e w2 ⟨v2, rfl, ho2, hb2⟩
    clear C2
    obtain ⟨ta2, tc2, rfl, htc2, hv2⟩ := tok_view ho2
    obtain ⟨W2, hW2⟩ : ∃ W, w2.alloc (.cells #[.int .i64 q2, .int .i64 (p2 : Int)] 27) = W := ⟨_, rfl⟩
    have b2 : Below w2.heap.size w2 W2 := by rw [← hW2]; exact (Below.refl _ _).alloc (Nat.le_refl _) _
    have b12 : Below w1.heap.size w1 W2 := HBW.out.trans ((hb2.trans (b2.mono hb2.size)).mono HBW.out.size)
    have HB2 : Hid (Below w.heap.size w W2) := HB1.out.trans ((hb2.trans (b2.mono hb2.size)).mono HB1.out.size)
    have l9 : ¬ (M.length : Int) < (A : Int) := by omega
    have l10 : (A : Int) ≤ (tc : Int) := by omega
    have l11 : (A : Int) ≤ (tc2 : Int) := by omega
    have EQ : Hid (∀ W, Below W2.heap.size W2 W → Calls Tryz.prog 11 #[.slice ta2 A tc2, .slice (some ⟨g, 0, none⟩) A tc] W fun e w' => e = .returned (.bool true) ∧ Below W2.heap.size W2 w') := fun W hW => by
      rcases Nat.eq_zero_or_pos A with hA0 | hA0
      · subst hA0
        exact (tequal_none _ _ _ _ W).mono fun e w' h => ⟨h.1, hW.trans (h.2.mono hW.size)⟩
      · obtain ⟨g2, rfl, hg3, hg4, hat2⟩ := hv2 (by omega)
        refine (tequal_some g2 g A tc2 tc (fun i => L.getD i (char 0)) W (by omega) (fun i hi => ?_) (fun i hi => ?_)).mono fun e w' h => ⟨h.1, hW.trans (h.2.mono hW.size)⟩
        · have e1 : M[i]? = L[i]? := by rw [← List.getElem?_take_of_lt hi, HTK.out, List.getElem?_take_of_lt hi]
          exact ((hat2 i _ (by rw [e1]; simp [show i < L.length by omega])).below b2).below hW
        · exact ((HAT.out i _ (by simp [show i < L.length by omega])).below b12).below hW
    have AW : Hid (∀ W, Below W2.heap.size W2 W → Calls Tryz.prog 13 #[] W fun e w' => e = .returned (.bool true) ∧ Below W2.heap.size W2 w') := fun W hW =>
      (awake_any W (HM.out.below (HB2.out.trans (hW.mono HB2.out.size)))).mono fun e w' h => ⟨h.1, hW.trans (h.2.mono hW.size)⟩
    clear ho2 hb2 b2 b12 hv2 HAT HTK hA
    go_wp2
    clear hW2
    go_region_held3 (fun w' => True) (go_keep)
      (first
        | (go_at_call 11; refine (EQ.out _ ?_).mono ?_; (rotate_left; rintro e w3 ⟨rfl, hb3⟩; rotate_right; (repeat' first | exact Below.refl _ _ | assumption | refine below_drewN ?_ _ | refine Below.drew ?_)))
        | (go_at_call 13; refine (AW.out _ ?_).mono ?_; (rotate_left; rintro e w4 ⟨rfl, hb4⟩; rotate_right; (repeat' first | exact Below.refl _ _ | assumption | refine below_drewN ?_ _ | refine Below.drew ?_))))
    go_wp2
    go_ret
    exact ⟨rfl, HB2.out.trans (Below.mono (by assumption) HB2.out.size)⟩
theorem ahead_w (v : Value) (n : Nat) (f : Nat → Int) (x : Int) (w : World) (h : ArgB w v n f) (hn : n ≤ 140737488355328) (hm : utf.Marks w) : Calls Tryz.prog 6 #[v, .int .i64 x] w fun e w' => e = .returned (.bool true) ∧ Below w.heap.size w w' := by
  obtain ⟨ao, cap, rfl, hB, hf, hc, hcm, hnil⟩ := h
  exact ahead_walk ao n cap f x w hB hm hf hc hcm
end Go.Proofs.YtlgkfnecahgedaaGreatDoor.tok
end
