/- Texts that the proof leans on, one behind the other. -/
import Derived.Test.YtfknljjbdofjjabGreatDoorBdDcp1
import Derived.Test.YtfknljjbdofjjabGreatDoorBdPrp9

section
/- rubricatorref07.Full: the document's answer. -/
set_option linter.unusedVariables false
set_option linter.unusedSimpArgs false
namespace Go.Proofs.YtfknljjbdofjjabGreatDoor.dcp
open Go.RowKit Go.Maps lin prp

theorem nd_mem {r p : Int} (h : p ∈ dp r) : nd p < nd r := by
  rw [nd_eq r]
  have : ∀ l : List Int, p ∈ l → nd p ≤ (l.map nd).sum := by
    intro l
    induction l with
    | nil => intro h; simp at h
    | cons x l ih =>
      intro h
      rw [List.map_cons, List.sum_cons]
      rcases List.mem_cons.1 h with rfl | h
      · omega
      · have := ih h; omega
  have := this _ h
  omega
set_option maxHeartbeats 2000000 in
set_option maxRecDepth 1000000 in
theorem rsyl_any (u : Nat) (r : Int) (w : World) (h : 44032 ≤ r ∧ r ≤ 55203) : Calls Tryz.prog 56 #[.pointer (some ⟨u, 0, none⟩), .int .i64 r] w fun e w' => ∃ v, e = .returned v ∧ IOwn w' w.heap.size v (sylL r) ∧ Below w.heap.size w w' := by
  obtain ⟨i0, hi, hz0, hy1, hz2⟩ := info_parts infoInt
  obtain ⟨n, hn⟩ : ∃ n, r - 44032 = n := ⟨_, rfl⟩
  have h0 : 0 ≤ n := by omega
  have h1 : n < 11172 := by omega
  have g1 : 44032 ≤ r := h.1
  have g2 : r ≤ 55203 := h.2
  obtain ⟨a, ha⟩ : ∃ a, n / 588 = a := ⟨_, rfl⟩
  obtain ⟨b, hb⟩ : ∃ b, n % 588 = b := ⟨_, rfl⟩
  obtain ⟨c, hc⟩ : ∃ c, b / 28 = c := ⟨_, rfl⟩
  obtain ⟨d, hd⟩ : ∃ d, n % 28 = d := ⟨_, rfl⟩
  obtain ⟨X, hX⟩ : ∃ X, sylL r = X := ⟨_, rfl⟩
  have HX : Hid (X = if d = 0 then [4352 + a, 4449 + c] else [4352 + a, 4449 + c, 4519 + d]) := by rw [← hX]; show sylL r = _; unfold sylL; rw [hn, ha, hb, hc, hd]
  rw [hX]
  have a0 : 0 ≤ a := by omega
  have a1 : a < 20 := by omega
  have b0 : 0 ≤ b := by omega
  have b1 : b < 588 := by omega
  have c0 : 0 ≤ c := by omega
  have c1 : c < 21 := by omega
  have d0 : 0 ≤ d := by omega
  have d1 : d < 28 := by omega
  have q1 : Int.tdiv n 588 = a := by rw [Int.tdiv_eq_ediv_of_nonneg h0, ha]
  have q2 : Int.tmod n 588 = b := by rw [Int.tmod_eq_emod_of_nonneg h0, hb]
  have q3 : Int.tdiv b 28 = c := by rw [Int.tdiv_eq_ediv_of_nonneg b0, hc]
  have q4 : Int.tmod n 28 = d := by rw [Int.tmod_eq_emod_of_nonneg h0, hd]
  have w0 : IntKind.i64.wrap n = n := by rw [IntKind.wrap_i64]; omega
  have w1 : IntKind.i64.wrap (4352 + a) = 4352 + a := by rw [IntKind.wrap_i64]; omega
  have w2 : IntKind.i64.wrap (4449 + c) = 4449 + c := by rw [IntKind.wrap_i64]; omega
  have w3 : IntKind.i64.wrap (4519 + d) = 4519 + d := by rw [IntKind.wrap_i64]; omega
  have HO : Hid ((w.alloc (.cells #[.int .i64 (4352 + a), .int .i64 (4449 + c)] 3)).ownsRow w.heap.size 3 1 (.slice (some ⟨w.heap.size, 0, none⟩) 2 2) 2 [.int .i64 (4352 + a), .int .i64 (4449 + c)]) := World.ownsRow_lit (base := w.heap.size) (e := 3) (size := 1) w #[.int .i64 (4352 + a), .int .i64 (4449 + c)] 2 (Nat.le_refl _) (by unfold maxLen; omega) rfl
  have HB : Hid (Below w.heap.size w (w.alloc (.cells #[.int .i64 (4352 + a), .int .i64 (4449 + c)] 3))) := (Below.refl _ w).alloc (Nat.le_refl _) _
  clear hX h ha hb hc hd
  by_cases hz : d = 0
  · have hq : (d != 0) = false := by simp [hz]
    have HZ : Hid (d = 0) := hz
    clear hz
    go_enter Tryz.func56, Tryz.ntmps56
    go_wp2
    go_ret
    rw [HX.out, if_pos HZ.out]
    exact ⟨_, rfl, HO.out, HB.out⟩
  · have hq : (d != 0) = true := by simp [hz]
    have HZ : Hid (¬ d = 0) := hz
    clear hz
    go_enter Tryz.func56, Tryz.ntmps56
    go_wp2_with (at_builtin; refine wpList_append_own _ rfl _ _ 22 rfl w.heap.size 3 i0 (.int .i64 0) 1 8 Tryz.underlying22 hi hz0 hy1 hz2 rfl (by decide) _ _ _ rfl (HO.out.alloc _) ⟨w.heap.size + 1, 0, none⟩ 1 1 [.int .i64 (4519 + d)] rfl rfl ?c1 ?c2 ?c3 ?c4 ?c5 ?_)
    try (case c1 => first | exact cell_one_new _ _ _ | (have := cell_one_new (w.alloc (.cells #[.int .i64 (4352 + a), .int .i64 (4449 + c)] 3)) (.int .i64 (4519 + d)) 3; simpa using this))
    case c2 => first | (intro u hu; simp at hu; subst hu; rfl) | simp [Value.oneCell']
    case c3 => unfold maxLen; omega
    case c4 => omega
    case c5 => first | omega | (simp; omega)
    intro v5 w5 hown5 hgrow5 _
    have R1 : Hid (IOwn w5 w.heap.size v5 [4352 + a, 4449 + c, 4519 + d]) := hown5
    have R2 : Hid (Below w.heap.size w w5) := Below.grown ((HB.out).alloc (by simp) _) hgrow5 (by simp; omega) (fun k e => by cases e; exact Nat.le_refl _)
    obtain ⟨va, vc, rfl⟩ := own_slice hown5
    clear hown5 hgrow5
    go_wp2
    go_ret
    rw [HX.out, if_neg HZ.out]
    exact ⟨_, rfl, R1.out, R2.out⟩
set_option maxHeartbeats 2000000 in
set_option maxRecDepth 1000000 in
theorem rfull_N (u : Nat) : ∀ (N : Nat) (r : Int) (w : World), nd r ≤ N → RTabs w u → Calls Tryz.prog 56 #[.pointer (some ⟨u, 0, none⟩), .int .i64 r] w fun e w' => ∃ v, e = .returned v ∧ IOwn w' w.heap.size v (fullL r) ∧ Below w.heap.size w w' := by
  intro N
  induction N with
  | zero => intro r w h; have := nd_pos r; omega
  | succ N ih =>
    intro r w hN h
    by_cases hs : 44032 ≤ r ∧ r ≤ 55203
    · have e1 : fullL r = sylL r := by
        have hne : dp r ≠ [] := by rw [dp_syl hs]; unfold sylL; split <;> simp
        rw [full_node hne, dp_syl hs]
        have : ∀ l : List Int, (∀ p ∈ l, fullL p = [p]) → l.flatMap fullL = l := by
          intro l
          induction l with
          | nil => intro _; rfl
          | cons x l ih => intro hl; rw [List.flatMap_cons, ih (fun q hq => hl q (by simp [hq])), hl x (by simp)]; rfl
        exact this _ fun p hp => full_leaf (dp_jamo (syl_jamo hs p hp))
      rw [e1]
      exact rsyl_any u r w hs
    · obtain ⟨i0, hi, hz0, hy1, hz2⟩ := info_parts infoInt
      have C := rparts_t u r w h
      rw [← dp_not hs] at C
      have HT : Hid (RTabs w u) := h
      have HIH : Hid (∀ (p : Int) (w : World), p ∈ dp r → RTabs w u → Calls Tryz.prog 56 #[.pointer (some ⟨u, 0, none⟩), .int .i64 p] w fun e w' => ∃ v, e = .returned v ∧ IOwn w' w.heap.size v (fullL p) ∧ Below w.heap.size w w') := fun p w hp hw => ih p w (by have := nd_mem hp; omega) hw
      have hl3 := dp_len r
      clear h ih hN
      have body : ∀ (hx : ¬ 44032 ≤ r ∨ (44032 ≤ r ∧ ¬ r ≤ 55203)), Calls Tryz.prog 56 #[.pointer (some ⟨u, 0, none⟩), .int .i64 r] w fun e w' => ∃ v, e = .returned v ∧ IOwn w' w.heap.size v (fullL r) ∧ Below w.heap.size w w' := by
        intro hx
        by_cases hd : dp r = []
        · rw [full_leaf hd]
          rw [hd] at C
          rcases hx with g1 | ⟨g1, g2⟩
          all_goals
            clear HIH
            go_enter Tryz.func56, Tryz.ntmps56
            go_wp2_with fail
            refine C.mono ?_
            rintro e w1 ⟨v, rfl, hv, hb⟩
            obtain ⟨va, vc, rfl, _⟩ := hv
            simp only [List.length_nil] at *
            have R1 : Hid (IOwn (w1.alloc (.cells #[.int .i64 r] 3)) w.heap.size (.slice (some ⟨w1.heap.size, 0, none⟩) 1 1) [r]) := World.ownsRow_lit (base := w.heap.size) (e := 3) (size := 1) w1 #[.int .i64 r] 1 hb.size (by unfold maxLen; omega) rfl
            have R2 : Hid (Below w.heap.size w (w1.alloc (.cells #[.int .i64 r] 3))) := hb.alloc hb.size _
            clear C
            go_wp2
            go_ret
            exact ⟨_, rfl, R1.out, R2.out⟩
        · have hpos : 0 < (dp r).length := by cases h : dp r with | nil => exact absurd h hd | cons => simp
          rw [full_node hd]
          have HG : Hid (∀ k, k < (dp r).length → ∃ p, (dp r)[k]? = some p ∧ p ∈ dp r ∧ (dp r).getD k 0 = p ∧ (dp r).take (k + 1) = (dp r).take k ++ [p]) := fun k hk => ⟨(dp r)[k], List.getElem?_eq_getElem hk, List.getElem_mem hk, by rw [List.getD_eq_getElem?_getD, List.getElem?_eq_getElem hk]; rfl, List.take_succ_eq_append_getElem hk⟩
          have HALL : Hid ((dp r).take (dp r).length = dp r) := List.take_length
          generalize dp r = D at *
          have HFL : Hid (∀ k, ((D.take k).flatMap fullL).length ≤ 27) := fun k => by
            have := flat_len (n := 9) (D.take k) (fun x _ => full_len x)
            rw [List.length_take] at this
            omega
          obtain ⟨n, hn⟩ : ∃ n, D.length = n := ⟨_, rfl⟩
          have hne : ((n : Int) == 0) = false := beq_eq_false_iff_ne.2 (by omega)
          rcases hx with g1 | ⟨g1, g2⟩
          all_goals
            go_enter Tryz.func56, Tryz.ntmps56
            go_wp2_with fail
            refine C.mono ?_
            rintro e w1 ⟨v, rfl, hv, hb⟩
            obtain ⟨va, vc, rfl, hcl⟩ := hv
            obtain ⟨pb, po, rfl, hpc⟩ := hcl hpos
            have HC : Hid (∀ j, j < n → w1.cell? ⟨pb, po + j, none⟩ = some (.int .i64 (D.getD j 0))) := fun j hj => hpc j (by omega)
            have HN : Hid (D.length = n) := hn
            rw [hn] at hpos hl3 ⊢
            have HB1 : Hid (Below w.heap.size w w1) := hb
            clear C hcl hpc hn hb
            go_wp2
            go_loopw [8, 47] (fun v i wr => ∃ k : Nat, k ≤ n ∧ i = .int .i64 k ∧ Hid (IOwn wr w1.heap.size v ((D.take k).flatMap fullL)) ∧ Hid (Below w1.heap.size w1 wr)) (fun _ i _ => n - (RowKit.intOf i).toNat)
            case atStart => exact ⟨0, Nat.zero_le _, rfl, World.ownsRow_nil _ _ _ _, Below.refl _ _⟩
            case round =>
              obtain ⟨k, hk, rfl, HO, HB⟩ := hrel
              by_cases hlt : k < n
              · have hlt' : (k : Int) < (n : Int) := by omega
                obtain ⟨p, _, hpm, hpd, hpt⟩ := HG.out k (by rw [HN.out]; exact hlt)
                have c0 := cell_below HB.out (HC.out k hlt)
                rw [hpd] at c0
                have bw : Below w.heap.size w wr := HB1.out.trans (HB.out.mono HB1.out.size)
                have C := HIH.out p wr hpm (HT.out.below bw)
                have HP : Hid (fullL p = fullL p ∧ 0 < (fullL p).length ∧ (fullL p).length ≤ 9) := ⟨rfl, full_pos p, full_len p⟩
                have HTK : Hid ((D.take (k + 1)).flatMap fullL = (D.take k).flatMap fullL ++ fullL p) := by show _ = _; rw [hpt, List.flatMap_append]; simp
                have HLF := HFL.out k
                obtain ⟨ya, yc, rfl⟩ := own_slice HO.out
                have HBW : Hid (Below w.heap.size w wr) := bw
                clear hpm hpd hpt bw
                generalize hfp : fullL p = FP at *
                generalize hTK : (D.take k).flatMap fullL = TK at *
                generalize hTL : TK.length = tl at *
                go_wp2_with fail
                refine C.mono ?_
                rintro e w2 ⟨v2, rfl, hv2, b2⟩
                obtain ⟨xa, xc, rfl, hx2⟩ := hv2.iv
                obtain ⟨b, o, rfl, hxc⟩ := hx2 HP.out.2.1
                have HNW : Hid (∀ (j : Nat) (y : Value), (FP.map (Value.int .i64))[j]? = some y → w2.cell? ((⟨b, o, none⟩ : Addr).add j) = some y) := fun j y hj => by
                  rw [List.getElem?_map] at hj
                  cases hq : FP[j]? with
                  | none => rw [hq] at hj; simp at hj
                  | some z =>
                    rw [hq] at hj
                    simp at hj
                    subst hj
                    have hjl := (List.getElem?_eq_some_iff.1 hq).1
                    have := hxc j hjl
                    rw [List.getD_eq_getElem?_getD, hq] at this
                    rw [Addr.add_lit]
                    exact this
                have HO2 : Hid (w2.ownsRow w1.heap.size 3 1 (.slice ya tl yc) tl (TK.map (Value.int .i64))) := by
                  have := own_below HO.out b2
                  rw [hTL] at this
                  exact this
                have hfl := HP.out.2.2
                have hsz2 : w1.heap.size ≤ w2.heap.size := by have := HB.out.size; have := b2.size; omega
                have HB2 : Hid (Below wr.heap.size wr w2) := b2
                have hone := ints_one FP
                clear C hv2 hx2 hxc b2
                generalize hFL2 : FP.length = fl at *
                go_wp2_with (at_builtin; refine wpList_append_own _ rfl _ _ 22 rfl w1.heap.size 3 i0 (.int .i64 0) 1 8 Tryz.underlying22 hi hz0 hy1 hz2 rfl (by decide) _ _ _ rfl HO2.out ⟨b, o, none⟩ fl xc (FP.map (Value.int .i64)) rfl (by simp; omega) HNW.out hone ?c3 ?c4 ?c5 ?_)
                case c3 => unfold maxLen; omega
                case c4 => omega
                case c5 => exact hsz2
                intro v' w4 hown4 hgrow _
                have R2 : Hid (Below w1.heap.size w1 w4) := Below.grown (HB.out.trans (HB2.out.mono HB.out.size)) hgrow hsz2 (fun k e => (HO2.out.lt k e).1)
                have R1 : Hid (IOwn w4 w1.heap.size v' ((D.take (k + 1)).flatMap fullL)) := by
                  show IOwn _ _ _ _
                  unfold IOwn
                  rw [HTK.out, List.length_append, List.map_append, hTL, hFL2]
                  exact hown4
                clear hown4 hgrow HO2 HNW hone
                go_wp2
                go_roundw
                case rel => exact ⟨k + 1, by omega, by go_num, R1, R2⟩
                case measure => simp [RowKit.intOf]; omega
              · obtain rfl : k = n := by omega
                have hlt' : ¬ (k : Int) < (k : Int) := by omega
                obtain ⟨ya, yc, rfl⟩ := own_slice HO.out
                have R1 : Hid (IOwn wr w.heap.size (.slice ya ((D.take k).flatMap fullL).length yc) (D.flatMap fullL)) := by
                  have h1 := HO.out
                  have h2 : (D.take k).flatMap fullL = D.flatMap fullL := by rw [← HN.out, HALL.out]
                  rw [h2] at h1 ⊢
                  exact own_lower h1 HB1.out.size
                have R2 : Hid (Below w.heap.size w wr) := HB1.out.trans (HB.out.mono HB1.out.size)
                clear HO
                generalize ((D.take k).flatMap fullL).length = tl at *
                go_wp2
                go_ret
                exact ⟨_, rfl, R1.out, R2.out⟩
      rcases (Decidable.em (44032 ≤ r)) with c | c
      · exact body (.inr ⟨c, fun d => hs ⟨c, d⟩⟩)
      · exact body (.inl c)
theorem rfull_any (u : Nat) (r : Int) (w : World) (h : RTabs w u) : Calls Tryz.prog 56 #[.pointer (some ⟨u, 0, none⟩), .int .i64 r] w fun e w' => ∃ v, e = .returned v ∧ IOwn w' w.heap.size v (fullL r) ∧ Below w.heap.size w w' := rfull_N u _ r w (Nat.le_refl _) h
end Go.Proofs.YtfknljjbdofjjabGreatDoor.dcp
end
