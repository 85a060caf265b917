/- What the document's both answers: the set of what the way of two lists says; Make, Union, Meet, Minus, Xor, Not, Size. -/
import Derived.Test.YtmglljceklmngaaRngRef
set_option linter.unusedVariables false
set_option linter.unusedSimpArgs false
namespace Go.Proofs.Ytmglljceklmngaa.rng
open Go.RowKit

set_option maxRecDepth 10000 in
set_option maxHeartbeats 4000000 in
theorem both_any (a1 a2 : Option Addr) (c1 c2 : Nat) (l m : List R) (kind : Nat) (w : World) (hk3 : kind ≤ 3) (hn' : l.length ≤ 1000000) (hm' : m.length ≤ 1000000) (h1 : RV w a1 l) (h2 : RV w a2 m) (n1 : a1 = none → c1 = 0) (n2 : a2 = none → c2 = 0) :
    Calls Try.prog 45 #[.slice a1 l.length c1, .slice a2 m.length c2, .int .i64 kind] w fun e w' => ∃ v r, e = .returned v ∧ Own w' w.heap.size v r ∧ IsSet r (fun x => way kind (has l x) (has m x)) ∧ Below w.heap.size w w' := by
  obtain ⟨i0, hi, hz0, hz1, hz2⟩ := info_parts infoRange
  have C := redges_any a1 a2 c1 c2 l m w hn' hm' h1 h2 n1 n2
  have H1 : Hid (RV w a1 l) := h1
  have H2 : Hid (RV w a2 m) := h2
  have hn : l.length ≤ 1000000000 := by omega
  have hm : m.length ≤ 1000000000 := by omega
  clear h1 h2 n1 n2 hn' hm'
  obtain ⟨f, hf⟩ : ∃ f : Int → Bool, f = fun x => way kind (has l x) (has m x) := ⟨_, rfl⟩
  rw [← hf]
  have HFd : Hid (∀ x, f x = way kind (has l x) (has m x)) := fun x => by rw [hf]
  clear hf
  go_enter Try.func45, Try.ntmps45
  go_wp2_with fail
  refine C.mono ?_
  rintro e w1 ⟨v1, E, rfl, hoE, hP, hMk, hEl, hb1⟩
  obtain ⟨b1, d1, rfl, hv1, _, _⟩ := OwnI.view hoE
  have HV : Hid (IV w1 b1 E) := hv1
  have HP : Hid (E.Pairwise (· < ·)) := hP
  have HMK : Hid (Marks (l ++ m) E) := hMk
  have HI : Hid (BoInv f [] (cur E 0)) := by unfold Hid; rw [hMk.cur_zero hP]; exact BoInv.start f
  obtain ⟨n, hEn⟩ : ∃ n, E.length = n := ⟨_, rfl⟩
  rw [hEn] at hEl ⊢
  have HEn : Hid (E.length = n) := hEn
  have hbs := hb1.size
  clear C hoE hv1 hP hMk hEn
  go_wp2
  go_loopw [7, 18] (fun o i wr => ∃ (k : Nat) (out : List R), k ≤ n ∧ i = .int .i64 k ∧ out.length ≤ k ∧ Hid (BoInv f out (cur E k)) ∧ wr.ownsRow w1.heap.size 43 2 o out.length (flat out) ∧ Below w1.heap.size w1 wr) (fun _ i _ => n - (intOf i).toNat)
  case atStart => exact ⟨0, [], Nat.zero_le _, rfl, Nat.le_refl _, HI, World.ownsRow_nil _ _ _ _, Below.refl _ _⟩
  case round =>
    obtain ⟨k, out, hk, rfl, hol, HBo, hown, hbel⟩ := hrel
    clear HI
    have hs1 := hbel.size
    by_cases hlt : k < n
    · obtain ⟨x, hx⟩ := get_ltI HEn.out hlt
      obtain ⟨b, off, rfl, hc⟩ := (HV.out.below hbel).some (by have := HEn.out; omega)
      have cx := hc k x hx
      have hxr := HMK.out.rng x (List.mem_of_getElem? hx)
      obtain ⟨hx0, hx1⟩ := hxr
      by_cases hk1 : k + 1 < n
      · obtain ⟨z, hz⟩ := get_ltI HEn.out hk1
        have cz := hc (k + 1) z hz
        have hzr := HMK.out.rng z (List.mem_of_getElem? hz)
        obtain ⟨hz0', hz1'⟩ := hzr
        have hcur : cur E (k + 1) = z := cur_get hz
        clear hc hz

        have GAP : Hid (∀ y, x ≤ y → y < z → f y = f x) := fun y h1 h2 => by
          have e1 := HMK.out.flat HP.out (a := l) (fun p hp => List.mem_append.2 (Or.inl hp)) hx h1 (by rw [hcur]; exact h2)
          have e2 := HMK.out.flat HP.out (a := m) (fun p hp => List.mem_append.2 (Or.inr hp)) hx h1 (by rw [hcur]; exact h2)
          rw [HFd.out y, HFd.out x, e1, e2]
        have hgt : x < z := by have := (HMK.out.next HP.out hx).1; rw [hcur] at this; exact this
        have hmx : z ≤ (1114112 : Int) := by have := (HMK.out.next HP.out hx).2.1; rw [hcur] at this; exact this
        have HCN : Hid (cur E (k + 1) = z) := hcur
        have HB : Hid (BoInv f out x) := by have := HBo.out; rw [cur_get hx] at this; exact this
        have CI := in_any a1 a2 c1 c2 l m kind x wr hk3 hn hm (H1.out.below (hb1.trans (hbel.mono hbs))) (H2.out.below (hb1.trans (hbel.mono hbs)))
        have HFX : Hid (way kind (has l x) (has m x) = f x) := by unfold Hid; rw [HFd.out]
        rw [HFX.out] at CI
        have HCI : Hid (Calls Try.prog 51 #[.slice a1 l.length c1, .slice a2 m.length c2, .int .i64 kind, .int .i64 x] wr fun e w' => e = .returned (.bool (f x)) ∧ Below wr.heap.size wr w') := CI
        clear CI hcur hx HBo
        obtain ⟨fx, hfx⟩ : ∃ b, f x = b := ⟨_, rfl⟩
        have HFF : Hid (f x = fx) := hfx
        clear hfx
        go_wp2_with fail
        refine HCI.out.mono ?_
        rintro e w3 ⟨rfl, hb3'⟩
        have hb3 := hbel.trans (hb3'.mono hs1)
        have hs3 := hb3.size
        have hown3 := own_below' hown hb3'
        rw [HFF.out]
        clear HCI hb3' hown hbel
        cases fx with
        | false =>
          have HE : Hid (BoInv f out (cur E (k + 1))) := by
            unfold Hid; rw [HCN.out]
            exact HB.out.skip (by omega) (fun y h1 h2 => (GAP.out y h1 h2).trans HFF.out)
          clear HB
          go_wp2
          go_roundw
          case rel => exact ⟨k + 1, out, by omega, by go_num, by omega, HE, hown3, hb3⟩
          case measure => simp [intOf]; omega
        | true =>
          have HW : Hid (∀ j, u7.ownBlock = some j → w1.heap.size ≤ j) := fun j e => (hown3.lt _ e).1
          rcases List.eq_nil_or_concat out with rfl | ⟨i, q, rfl⟩
          · have HE : Hid (BoInv f ([] ++ [(x, z - 1)]) (cur E (k + 1))) := by
              unfold Hid; rw [HCN.out]
              have := HB.out.new hx0 hgt hmx (fun y h1 h2 => (GAP.out y h1 h2).trans HFF.out) (fun i q e => by simp at e)
              simpa using this
            obtain ⟨ua, uc, rfl⟩ : ∃ ua uc, u7 = .slice ua 0 uc := by
              rcases hown3.2 with ⟨e, _⟩ | ⟨g, c, _, e, _⟩
              · exact ⟨_, _, e⟩
              · exact ⟨_, _, e⟩
            have hown5 : w3.ownsRow w1.heap.size 43 2 (.slice ua 0 uc) 0 [] := hown3
            clear hown3 HB
            go_wp2_with (at_builtin; refine wpList_append_own _ rfl _ _ 41 rfl w1.heap.size 43 i0 (.agg #[.int .i64 0, .int .i64 0]) 2 16 Try.underlying41 hi hz0 hz1 hz2 rfl (by decide) _ _ _ rfl (hown5.alloc _) ⟨w3.heap.size, 0, none⟩ 1 1 [.int .i64 x, .int .i64 (z - 1)] rfl rfl ?c1 ?c2 ?c3 ?c4 ?c5 ?_)
            try (case c1 => exact one_new w3 _ _ _)
            case c2 => first | (intro u hu; simp at hu; rcases hu with rfl | rfl <;> rfl) | (refine ⟨?_, ?_⟩ <;> rfl)
            case c3 => unfold maxLen; omega
            case c4 => omega
            case c5 => first | omega | (simp; omega)
            · intro v' w4 hown4 hgrow _
              have R2 := Below.grown (hb3.alloc hs3 (.cells #[.int .i64 x, .int .i64 (z - 1)] 43)) hgrow (by simp; omega) HW.out
              have R1 : w4.ownsRow w1.heap.size 43 2 v' ([] ++ [(x, z - 1)]).length (flat ([] ++ [(x, z - 1)])) := by
                have e : ([] ++ [(x, z - 1)]).length = 0 + 1 := by rfl
                rw [e, flat_append ([]), flat_two]; exact hown4
              have R3 : ([] ++ [(x, z - 1)]).length ≤ k + 1 := by
                have e : ([] ++ [(x, z - 1)]).length = 0 + 1 := by rfl
                rw [e]; omega
              clear hown4 hgrow
              go_wp2
              go_roundw
              case rel => exact ⟨k + 1, [] ++ [(x, z - 1)], by omega, by go_num, R3, HE, R1, R2⟩
              case measure => simp [intOf]; omega
          · rw [List.concat_eq_append] at *
            obtain ⟨q1, q2⟩ := q
            have hcan := (can_snoc _ _ _).1 HB.out.can
            obtain ⟨g, c, rfl, hg1, hg2, hg3, hg4, k1, k2, k3⟩ := own_last hown3
            simp only at k1 k2
            have hq0 : -2 ≤ q2 := by have := nxt_ge i 0 hcan.1; have := hcan.2; simp only at this; omega
            have hq1 : q2 ≤ 1114111 := hcan.2.2.2
            have hiL : i.length + 1 ≤ k := by simpa using hol
            unfold maxLen at hg4
            obtain ⟨L, hL⟩ : ∃ L, i.length = L := ⟨_, rfl⟩
            have HLL : Hid (i.length = L) := hL
            have hown5 : w3.ownsRow w1.heap.size 43 2 (.slice (some ⟨g, 0, none⟩) (L + 1) c) (L + 1) (flat (i ++ [(q1, q2)])) := by
              have e : (i ++ [(q1, q2)]).length = L + 1 := by rw [List.length_append, hL]; rfl
              rw [e, hL] at hown3; exact hown3
            have hset : Hid ((w3.setCell ⟨g, L * 2 + 1, none⟩ (.int .i64 (z - 1))).ownsRow w1.heap.size 43 2 (.slice (some ⟨g, 0, none⟩) (L + 1) c) (i ++ [(q1, z - 1)]).length (flat (i ++ [(q1, z - 1)]))) := by
              unfold Hid; rw [← hL]; exact own_setHi hown3
            rw [hL] at k1 k2 k3 hg3 hiL ⊢
            clear hL hown3 hcan k1 hol
            by_cases hj : q2 = x - 1
            · subst hj
              have HE : Hid (BoInv f (i ++ [(q1, z - 1)]) (cur E (k + 1))) := by
                unfold Hid; rw [HCN.out]
                have := HB.out.join hgt hmx (fun y h1 h2 => (GAP.out y h1 h2).trans HFF.out) rfl
                simpa using this
              have R2 := hb3.setCell (p := ⟨g, L * 2 + 1, none⟩) hg1 (.int .i64 (z - 1))
              have R3 : (i ++ [(q1, z - 1)]).length ≤ k + 1 := by rw [List.length_append, HLL.out]; simp; omega
              clear HB hown5
              go_wp2
              go_roundw
              case rel => exact ⟨k + 1, i ++ [(q1, z - 1)], by omega, by go_num, R3, HE, hset, R2⟩
              case measure => simp [intOf]; omega
            · have HE : Hid (BoInv f (i ++ [(q1, q2)] ++ [(x, z - 1)]) (cur E (k + 1))) := by
                unfold Hid; rw [HCN.out]
                have := HB.out.new hx0 hgt hmx (fun y h1 h2 => (GAP.out y h1 h2).trans HFF.out) (fun i' q' e => by obtain ⟨_, rfl⟩ := snoc_inj e; exact hj)
                simpa using this
              have hje : (q2 == x - 1) = false := by simpa using hj
              clear HB hset hj
              go_wp2_with (at_builtin; refine wpList_append_own _ rfl _ _ 41 rfl w1.heap.size 43 i0 (.agg #[.int .i64 0, .int .i64 0]) 2 16 Try.underlying41 hi hz0 hz1 hz2 rfl (by decide) _ _ _ rfl (hown5.alloc _) ⟨w3.heap.size, 0, none⟩ 1 1 [.int .i64 x, .int .i64 (z - 1)] rfl rfl ?c1 ?c2 ?c3 ?c4 ?c5 ?_)
              try (case c1 => exact one_new w3 _ _ _)
              case c2 => first | (intro u hu; simp at hu; rcases hu with rfl | rfl <;> rfl) | (refine ⟨?_, ?_⟩ <;> rfl)
              case c3 => unfold maxLen; omega
              case c4 => omega
              case c5 => first | omega | (simp; omega)
              · intro v' w4 hown4 hgrow _
                have R2 := Below.grown (hb3.alloc hs3 (.cells #[.int .i64 x, .int .i64 (z - 1)] 43)) hgrow (by simp; omega) HW.out
                have R1 : w4.ownsRow w1.heap.size 43 2 v' (i ++ [(q1, q2)] ++ [(x, z - 1)]).length (flat (i ++ [(q1, q2)] ++ [(x, z - 1)])) := by
                  have e : (i ++ [(q1, q2)] ++ [(x, z - 1)]).length = L + 1 + 1 := by rw [List.length_append, List.length_append, HLL.out]; rfl
                  rw [e, flat_append (i ++ [(q1, q2)]), flat_two]; exact hown4
                have R3 : (i ++ [(q1, q2)] ++ [(x, z - 1)]).length ≤ k + 1 := by
                  have e : (i ++ [(q1, q2)] ++ [(x, z - 1)]).length = L + 1 + 1 := by rw [List.length_append, List.length_append, HLL.out]; rfl
                  rw [e]; omega
                clear hown4 hgrow
                go_wp2
                go_roundw
                case rel => exact ⟨k + 1, i ++ [(q1, q2)] ++ [(x, z - 1)], by omega, by go_num, R3, HE, R1, R2⟩
                case measure => simp [intOf]; omega
      · have hcur : cur E (k + 1) = 1114112 := cur_end (by rw [HEn.out]; omega)
        clear hc

        have GAP : Hid (∀ y, x ≤ y → y < (1114112 : Int) → f y = f x) := fun y h1 h2 => by
          have e1 := HMK.out.flat HP.out (a := l) (fun p hp => List.mem_append.2 (Or.inl hp)) hx h1 (by rw [hcur]; exact h2)
          have e2 := HMK.out.flat HP.out (a := m) (fun p hp => List.mem_append.2 (Or.inr hp)) hx h1 (by rw [hcur]; exact h2)
          rw [HFd.out y, HFd.out x, e1, e2]
        have hgt : x < (1114112 : Int) := by have := (HMK.out.next HP.out hx).1; rw [hcur] at this; exact this
        have hmx : (1114112 : Int) ≤ (1114112 : Int) := by have := (HMK.out.next HP.out hx).2.1; rw [hcur] at this; exact this
        have HCN : Hid (cur E (k + 1) = (1114112 : Int)) := hcur
        have HB : Hid (BoInv f out x) := by have := HBo.out; rw [cur_get hx] at this; exact this
        have CI := in_any a1 a2 c1 c2 l m kind x wr hk3 hn hm (H1.out.below (hb1.trans (hbel.mono hbs))) (H2.out.below (hb1.trans (hbel.mono hbs)))
        have HFX : Hid (way kind (has l x) (has m x) = f x) := by unfold Hid; rw [HFd.out]
        rw [HFX.out] at CI
        have HCI : Hid (Calls Try.prog 51 #[.slice a1 l.length c1, .slice a2 m.length c2, .int .i64 kind, .int .i64 x] wr fun e w' => e = .returned (.bool (f x)) ∧ Below wr.heap.size wr w') := CI
        clear CI hcur hx HBo
        obtain ⟨fx, hfx⟩ : ∃ b, f x = b := ⟨_, rfl⟩
        have HFF : Hid (f x = fx) := hfx
        clear hfx
        go_wp2_with fail
        refine HCI.out.mono ?_
        rintro e w3 ⟨rfl, hb3'⟩
        have hb3 := hbel.trans (hb3'.mono hs1)
        have hs3 := hb3.size
        have hown3 := own_below' hown hb3'
        rw [HFF.out]
        clear HCI hb3' hown hbel
        cases fx with
        | false =>
          have HE : Hid (BoInv f out (cur E (k + 1))) := by
            unfold Hid; rw [HCN.out]
            exact HB.out.skip (by omega) (fun y h1 h2 => (GAP.out y h1 h2).trans HFF.out)
          clear HB
          go_wp2
          go_roundw
          case rel => exact ⟨k + 1, out, by omega, by go_num, by omega, HE, hown3, hb3⟩
          case measure => simp [intOf]; omega
        | true =>
          have HW : Hid (∀ j, u7.ownBlock = some j → w1.heap.size ≤ j) := fun j e => (hown3.lt _ e).1
          rcases List.eq_nil_or_concat out with rfl | ⟨i, q, rfl⟩
          · have HE : Hid (BoInv f ([] ++ [(x, 1114111)]) (cur E (k + 1))) := by
              unfold Hid; rw [HCN.out]
              have := HB.out.new hx0 hgt hmx (fun y h1 h2 => (GAP.out y h1 h2).trans HFF.out) (fun i q e => by simp at e)
              simpa using this
            obtain ⟨ua, uc, rfl⟩ : ∃ ua uc, u7 = .slice ua 0 uc := by
              rcases hown3.2 with ⟨e, _⟩ | ⟨g, c, _, e, _⟩
              · exact ⟨_, _, e⟩
              · exact ⟨_, _, e⟩
            have hown5 : w3.ownsRow w1.heap.size 43 2 (.slice ua 0 uc) 0 [] := hown3
            clear hown3 HB
            go_wp2_with (at_builtin; refine wpList_append_own _ rfl _ _ 41 rfl w1.heap.size 43 i0 (.agg #[.int .i64 0, .int .i64 0]) 2 16 Try.underlying41 hi hz0 hz1 hz2 rfl (by decide) _ _ _ rfl (hown5.alloc _) ⟨w3.heap.size, 0, none⟩ 1 1 [.int .i64 x, .int .i64 (1114111)] rfl rfl ?c1 ?c2 ?c3 ?c4 ?c5 ?_)
            try (case c1 => exact one_new w3 _ _ _)
            case c2 => first | (intro u hu; simp at hu; rcases hu with rfl | rfl <;> rfl) | (refine ⟨?_, ?_⟩ <;> rfl)
            case c3 => unfold maxLen; omega
            case c4 => omega
            case c5 => first | omega | (simp; omega)
            · intro v' w4 hown4 hgrow _
              have R2 := Below.grown (hb3.alloc hs3 (.cells #[.int .i64 x, .int .i64 (1114111)] 43)) hgrow (by simp; omega) HW.out
              have R1 : w4.ownsRow w1.heap.size 43 2 v' ([] ++ [(x, 1114111)]).length (flat ([] ++ [(x, 1114111)])) := by
                have e : ([] ++ [(x, 1114111)]).length = 0 + 1 := by rfl
                rw [e, flat_append ([]), flat_two]; exact hown4
              have R3 : ([] ++ [(x, 1114111)]).length ≤ k + 1 := by
                have e : ([] ++ [(x, 1114111)]).length = 0 + 1 := by rfl
                rw [e]; omega
              clear hown4 hgrow
              go_wp2
              go_roundw
              case rel => exact ⟨k + 1, [] ++ [(x, 1114111)], by omega, by go_num, R3, HE, R1, R2⟩
              case measure => simp [intOf]; omega
          · rw [List.concat_eq_append] at *
            obtain ⟨q1, q2⟩ := q
            have hcan := (can_snoc _ _ _).1 HB.out.can
            obtain ⟨g, c, rfl, hg1, hg2, hg3, hg4, k1, k2, k3⟩ := own_last hown3
            simp only at k1 k2
            have hq0 : -2 ≤ q2 := by have := nxt_ge i 0 hcan.1; have := hcan.2; simp only at this; omega
            have hq1 : q2 ≤ 1114111 := hcan.2.2.2
            have hiL : i.length + 1 ≤ k := by simpa using hol
            unfold maxLen at hg4
            obtain ⟨L, hL⟩ : ∃ L, i.length = L := ⟨_, rfl⟩
            have HLL : Hid (i.length = L) := hL
            have hown5 : w3.ownsRow w1.heap.size 43 2 (.slice (some ⟨g, 0, none⟩) (L + 1) c) (L + 1) (flat (i ++ [(q1, q2)])) := by
              have e : (i ++ [(q1, q2)]).length = L + 1 := by rw [List.length_append, hL]; rfl
              rw [e, hL] at hown3; exact hown3
            have hset : Hid ((w3.setCell ⟨g, L * 2 + 1, none⟩ (.int .i64 (1114111))).ownsRow w1.heap.size 43 2 (.slice (some ⟨g, 0, none⟩) (L + 1) c) (i ++ [(q1, 1114111)]).length (flat (i ++ [(q1, 1114111)]))) := by
              unfold Hid; rw [← hL]; exact own_setHi hown3
            rw [hL] at k1 k2 k3 hg3 hiL ⊢
            clear hL hown3 hcan k1 hol
            by_cases hj : q2 = x - 1
            · subst hj
              have HE : Hid (BoInv f (i ++ [(q1, 1114111)]) (cur E (k + 1))) := by
                unfold Hid; rw [HCN.out]
                have := HB.out.join hgt hmx (fun y h1 h2 => (GAP.out y h1 h2).trans HFF.out) rfl
                simpa using this
              have R2 := hb3.setCell (p := ⟨g, L * 2 + 1, none⟩) hg1 (.int .i64 (1114111))
              have R3 : (i ++ [(q1, 1114111)]).length ≤ k + 1 := by rw [List.length_append, HLL.out]; simp; omega
              clear HB hown5
              go_wp2
              go_roundw
              case rel => exact ⟨k + 1, i ++ [(q1, 1114111)], by omega, by go_num, R3, HE, hset, R2⟩
              case measure => simp [intOf]; omega
            · have HE : Hid (BoInv f (i ++ [(q1, q2)] ++ [(x, 1114111)]) (cur E (k + 1))) := by
                unfold Hid; rw [HCN.out]
                have := HB.out.new hx0 hgt hmx (fun y h1 h2 => (GAP.out y h1 h2).trans HFF.out) (fun i' q' e => by obtain ⟨_, rfl⟩ := snoc_inj e; exact hj)
                simpa using this
              have hje : (q2 == x - 1) = false := by simpa using hj
              clear HB hset hj
              go_wp2_with (at_builtin; refine wpList_append_own _ rfl _ _ 41 rfl w1.heap.size 43 i0 (.agg #[.int .i64 0, .int .i64 0]) 2 16 Try.underlying41 hi hz0 hz1 hz2 rfl (by decide) _ _ _ rfl (hown5.alloc _) ⟨w3.heap.size, 0, none⟩ 1 1 [.int .i64 x, .int .i64 (1114111)] rfl rfl ?c1 ?c2 ?c3 ?c4 ?c5 ?_)
              try (case c1 => exact one_new w3 _ _ _)
              case c2 => first | (intro u hu; simp at hu; rcases hu with rfl | rfl <;> rfl) | (refine ⟨?_, ?_⟩ <;> rfl)
              case c3 => unfold maxLen; omega
              case c4 => omega
              case c5 => first | omega | (simp; omega)
              · intro v' w4 hown4 hgrow _
                have R2 := Below.grown (hb3.alloc hs3 (.cells #[.int .i64 x, .int .i64 (1114111)] 43)) hgrow (by simp; omega) HW.out
                have R1 : w4.ownsRow w1.heap.size 43 2 v' (i ++ [(q1, q2)] ++ [(x, 1114111)]).length (flat (i ++ [(q1, q2)] ++ [(x, 1114111)])) := by
                  have e : (i ++ [(q1, q2)] ++ [(x, 1114111)]).length = L + 1 + 1 := by rw [List.length_append, List.length_append, HLL.out]; rfl
                  rw [e, flat_append (i ++ [(q1, q2)]), flat_two]; exact hown4
                have R3 : (i ++ [(q1, q2)] ++ [(x, 1114111)]).length ≤ k + 1 := by
                  have e : (i ++ [(q1, q2)] ++ [(x, 1114111)]).length = L + 1 + 1 := by rw [List.length_append, List.length_append, HLL.out]; rfl
                  rw [e]; omega
                clear hown4 hgrow
                go_wp2
                go_roundw
                case rel => exact ⟨k + 1, i ++ [(q1, q2)] ++ [(x, 1114111)], by omega, by go_num, R3, HE, R1, R2⟩
                case measure => simp [intOf]; omega
    · go_wp2
      go_ret
      refine ⟨_, out, rfl, own_mono hown hbs, ?_, hb1.trans (hbel.mono hbs)⟩
      have := HBo.out
      rw [cur_end (by rw [HEn.out]; omega)] at this
      exact this.done
end Go.Proofs.Ytmglljceklmngaa.rng
