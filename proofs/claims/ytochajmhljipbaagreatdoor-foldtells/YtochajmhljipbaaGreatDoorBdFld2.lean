/- Texts that the proof leans on, one behind the other. -/
import Derived.Test.YtochajmhljipbaaGreatDoorBdFld1
import Derived.Test.YtochajmhljipbaaGreatDoorBdPrp9

section
/- fold.Closure. -/
set_option linter.unusedVariables false
set_option linter.unusedSimpArgs false
namespace Go.Proofs.YtochajmhljipbaaGreatDoor.fld
open Go.RowKit Go.Maps
open Go.Proofs.YtochajmhljipbaaGreatDoor.lin Go.Proofs.YtochajmhljipbaaGreatDoor.prp
open Go.Proofs.YtochajmhljipbaaGreatDoor.rng (R has IsSet Sl code CanF)

/-- A row of numbers that is read in a loop: its value at a place. -/
theorem io_at {w : World} {B : Nat} {v : Value} {l : List Int} (h : IOwn w B v l) : ∃ a c, v = .slice a l.length c ∧ ∀ k, k < l.length → ∃ x b, a = some ⟨b, 0, none⟩ ∧ w.cell? ⟨b, k, none⟩ = some (.int .i64 x) ∧ l[k]? = some x := by
  rcases h.2 with ⟨rfl, h0⟩ | ⟨g, cap, cur, rfl, _⟩
  · exact ⟨none, 0, by rw [h0], fun k hk => by omega⟩
  · refine ⟨_, cap, rfl, fun k hk => ⟨l[k], g, rfl, ?_, List.getElem?_eq_getElem hk⟩⟩
    have h' : w.ownsRow B 3 1 (.slice (some ⟨g, 0, none⟩) l.length cap) l.length (l.map (Value.int .i64)) := h
    rw [h'.cellAt k (by omega), List.getElem?_map, List.getElem?_eq_getElem hk]
    rfl
theorem code_ok {r : Int} (h : code r = true) : okI r := by have := (rng.code_iff r).1 h; unfold okI; omega
theorem set_len {r : List R} {f : Int → Bool} (h : IsSet r f) : r.length ≤ 557056 := can_len0 h.1
theorem take_snoc {α : Type} {l : List α} {k : Nat} {x : α} (h : l[k]? = some x) : l.take (k + 1) = l.take k ++ [x] := by rw [List.take_add_one, h]; rfl
set_option maxHeartbeats 8000000 in
set_option maxRecDepth 1000000 in
theorem closure_t (t : Nat) (v : Value) (a : List R) (w : World) (h : Tabs w t) (E : Env w) (hs : Sl w v a) (hn : a.length ≤ 1000000) :
    Calls Tryz.prog 21 #[.pointer (some ⟨t, 0, none⟩), v] w fun e w' => ∃ v' r, e = .returned v' ∧ Sl w' v' r ∧ IsClo r a ∧ Below w.heap.size w w' := by
  obtain ⟨i0, hi, hz0, hz1, hz2⟩ := rng.info_parts rng.infoRange
  have HT : Hid (Tabs w t) := h
  have HE : Hid (Env w) := E
  have HS : Hid (Sl w v a) := hs
  have C := fmade_t t w h
  obtain ⟨va, vc, rfl, _⟩ := hs
  clear h E
  obtain ⟨an, ha⟩ : ∃ n, n = a.length := ⟨_, rfl⟩
  have HAN : Hid (an = a.length) := ha
  rw [← ha] at hn HS ⊢
  clear ha
  go_enter Tryz.func21, Tryz.ntmps21
  go_wp2_with fail
  refine C.mono ?_
  rintro e w1 ⟨rfl, b1⟩
  clear C
  have C := told_any w1 (HE.out.below b1)
  go_wp2_with fail
  refine C.mono ?_
  rintro e w2 ⟨v2, T, rfl, s2, hT, b2⟩
  clear C
  have HB2 : Hid (Below w.heap.size w w2) := b1.trans (b2.mono b1.size)
  have HSA : Hid (Sl w2 (.slice va an vc) a) := HS.out.below HB2.out
  have HIT : Hid (IsSet T (has tlR)) := hT
  have HST : Hid (Sl w2 v2 T) := s2
  have HTL : Hid (T.length ≤ 557056) := set_len hT
  clear b1 b2 HS hT
  obtain ⟨ta, tc, rfl, kT, _⟩ := s2
  obtain ⟨a', c', e', kA, _⟩ := HSA.out
  injection e' with e1 e2 e3
  subst e1 e3
  clear e2
  have C := rng.minus_any va ta vc tc a T w2 (by rw [← HAN.out]; exact hn) (by have := HTL.out; omega) kA kT
  rw [← HAN.out] at C
  generalize hTn : T.length = Tn at *
  have HTn : Hid (T.length = Tn) := hTn
  clear hTn
  go_wp2_with fail
  refine C.mono ?_
  rintro e w3 ⟨v3, m0, rfl, o3, hm0, b3⟩
  clear C
  have HM0 : Hid (IsSet m0 (fun x => has a x && !has T x)) := hm0
  have hml : m0.length ≤ 557056 := set_len hm0
  have C := rng.meet_any va ta vc tc a T w3 (by rw [← HAN.out]; exact hn) (by have := HTL.out; have := HTn.out; omega) (kA.below b3) (kT.below b3)
  rw [← HAN.out, HTn.out] at C
  obtain ⟨m0a, m0c, hv3⟩ := own_slice o3
  subst hv3
  have HO3 : Hid (rng.Own w3 w2.heap.size (.slice m0a m0.length m0c) m0) := o3
  have HB3 : Hid (Below w2.heap.size w2 w3) := b3
  clear hm0 o3 b3 kA kT
  generalize hmn : m0.length = mn at *
  have HMN : Hid (m0.length = mn) := hmn
  clear hmn
  go_wp2_with fail
  refine C.mono ?_
  rintro e w4 ⟨v4, M, rfl, o4, hM, b4⟩
  clear C
  have HM : Hid (IsSet M (fun x => has a x && has T x)) := hM
  have C := points_any v4 M w4 o4.sl hM.1
  obtain ⟨Ma, Mc, hv4⟩ := own_slice o4
  subst hv4
  generalize hMn : M.length = Mn at *
  clear hMn o4
  have HPL : Hid ((ptsL M).length ≤ 1114112) := pts_len hM.1
  have HPC : Hid (∀ r ∈ ptsL M, okI r) := fun r hr => code_ok (rng.has_code ((can_pts hM.1 r).1 hr))
  clear hM
  go_wp2_with fail
  refine C.mono ?_
  rintro e w5 ⟨v5, rfl, o5, b5⟩
  clear C
  have B45 : Below w3.heap.size w3 w5 := b4.trans (b5.mono b4.size)
  have HB5 : Hid (Below w2.heap.size w2 w5) := HB3.out.trans (B45.mono HB3.out.size)
  have HO5 : Hid (rng.Own w5 w2.heap.size (.slice m0a mn m0c) m0) := HO3.out.below B45
  have HP5 : Hid (IOwn w5 w2.heap.size v5 (ptsL M)) := rng.own_mono o5 (by have := HB3.out.size; have := b4.size; omega)
  obtain ⟨pa, pc, hv5⟩ := own_slice o5
  subst hv5
  clear b4 b5 B45 HO3 HB3 o5
  obtain ⟨P, hP⟩ : ∃ P, P = ptsL M := ⟨_, rfl⟩
  have HPM : Hid (P = ptsL M) := hP
  rw [← hP] at HPL HPC HP5 ⊢
  clear hP
  generalize hPn : P.length = Pn at *
  have HPn : Hid (P.length = Pn) := hPn
  have hpl : Pn ≤ 1114112 := HPL.out
  clear hPn HPL
  go_wp2
  go_loopw [6, 24] (fun u i wr => ∃ k : Nat, k ≤ Pn ∧ i = .int .i64 k ∧ Hid (rng.Own wr w2.heap.size u (m0 ++ (P.take k).map (fun r => one (sim r)))) ∧ Hid (IOwn wr w2.heap.size (.slice pa Pn pc) P) ∧ Hid (Below w2.heap.size w2 wr)) (fun _ i _ => Pn - (RowKit.intOf i).toNat)
  case atStart => exact ⟨0, Nat.zero_le _, rfl, by unfold Hid; rw [List.take_zero, List.map_nil, List.append_nil]; exact HO5.out, HP5, HB5⟩
  case round =>
    clear HO5 HP5 HB5
    obtain ⟨k, hk, rfl, HO, HP, HB⟩ := hrel
    by_cases hlt : k < Pn
    · have hlt' : (k : Int) < (Pn : Int) := by omega
      obtain ⟨a1, c1, e1, hat⟩ := io_at HP.out
      obtain ⟨r, b, ha1, hc, hr⟩ := hat k (by rw [HPn.out]; exact hlt)
      injection e1 with e1 e2 e3
      subst e1 ha1 e3
      have hro := HPC.out r (List.mem_of_getElem? hr)
      have HTK : Hid (m0 ++ (P.take (k + 1)).map (fun r => one (sim r)) = (m0 ++ (P.take k).map (fun r => one (sim r))) ++ [one (sim r)]) := by
        unfold Hid; rw [take_snoc hr, List.map_append, ← List.append_assoc]; rfl
      have C := simple_t t r wr (HT.out.below (HB2.out.trans (HB.out.mono HB2.out.size))) hro
      have hll : (m0 ++ (P.take k).map (fun r => one (sim r))).length ≤ 1671168 := by
        rw [List.length_append, List.length_map, List.length_take, HMN.out]; omega
      clear hat e2 hr
      generalize hFL : m0 ++ (P.take k).map (fun r => one (sim r)) = FL at *
      clear hFL
      obtain ⟨ya, yc, hy⟩ := own_slice HO.out
      subst hy
      generalize sim r = s at *
      go_wp2_with fail
      refine C.mono ?_
      rintro e x1 ⟨rfl, bx1⟩
      clear C
      have C := one_any s x1
      go_wp2_with fail
      refine C.mono ?_
      rintro e x2 ⟨rfl, bx2⟩
      clear C
      have BX : Below wr.heap.size wr x2 := bx1.trans (bx2.mono bx1.size)
      have HO2 : Hid (rng.Own x2 w2.heap.size (.slice ya FL.length yc) FL) := HO.out.below BX
      have HP2 : Hid (IOwn x2 w2.heap.size (.slice (some ⟨b, 0, none⟩) Pn pc) P) := own_below HP.out BX
      have HB2' : Hid (Below w2.heap.size w2 x2) := HB.out.trans (BX.mono HB.out.size)
      clear bx1 bx2 BX HO HP HB hc
      have hs2 := HB2'.out.size
      go_wp2_with (at_builtin; refine wpList_append_own _ rfl _ _ 36 rfl w2.heap.size 39 i0 (.agg #[.int .i64 0, .int .i64 0]) 2 16 Tryz.underlying36 hi hz0 hz1 hz2 rfl (by decide) _ _ _ rfl (World.ownsRow.alloc HO2.out _) ⟨x2.heap.size, 0, none⟩ 1 1 [.int .i64 s, .int .i64 s] rfl rfl (two_cells _ _ _ _) (two_one _ _) ?c3 ?c4 ?c5 ?_)
      case c3 => unfold maxLen; omega
      case c4 => omega
      case c5 => first | omega | (simp; omega)
      intro v' w9 hown9 hgrow _
      have R2 : Hid (Below w2.heap.size w2 w9) := Below.grown (HB2'.out.alloc hs2 _) hgrow (by simp; omega) (fun k e => (HO2.out.lt k e).1)
      have R1 : Hid (rng.Own w9 w2.heap.size v' (m0 ++ (P.take (k + 1)).map (fun r => one (sim r)))) := by
        unfold Hid
        rw [HTK.out]
        exact own_snoc (p := one s) hown9
      have R3 : Hid (IOwn w9 w2.heap.size (.slice (some ⟨b, 0, none⟩) Pn pc) P) := by
        have q := World.ownsRow.alloc HP2.out (.cells #[.int .i64 s, .int .i64 s] 39)
        have q2 := World.ownsRow.alloc HO2.out (.cells #[.int .i64 s, .int .i64 s] 39)
        exact World.ownsRow.kept q hgrow (rng.own_apart q q2 (by decide))
      obtain ⟨xa', xc', hx'⟩ := own_slice hown9
      subst hx'
      clear hown9 hgrow HO2 HP2 HB2' HTK
      go_wp2
      go_roundw
      case rel => exact ⟨k + 1, by omega, by go_num, R1, R3, R2⟩
      case measure => simp [RowKit.intOf]; omega
    · obtain rfl : k = Pn := by omega
      have hlt' : ¬ (k : Int) < (k : Int) := by omega
      have HFO : Hid (rng.Own wr w2.heap.size u6 (m0 ++ (ptsL M).map (fun r => one (sim r)))) := by
        have q := HO.out
        rw [List.take_of_length_le (by rw [HPn.out]; exact Nat.le_refl _)] at q
        rw [← HPM.out]
        exact q
      have hll : (m0 ++ (ptsL M).map (fun r => one (sim r))).length ≤ 1671168 := by
        rw [List.length_append, List.length_map, ← HPM.out, HPn.out, HMN.out]; omega
      obtain ⟨fa, fc, hf, hrv, _, _⟩ := HFO.out.view
      subst hf
      have C := rng.make_any fa fc _ wr (by omega) hrv
      have HBw : Hid (Below w2.heap.size w2 wr) := HB
      clear HO HP HFO HB hrv hll
      generalize (m0 ++ (ptsL M).map (fun r => one (sim r))).length = FLn at *
      go_wp2_with fail
      refine C.mono ?_
      rintro e w6 ⟨v6, f1, rfl, o6, hf1, b6⟩
      clear C
      have HF1 : Hid (IsSet f1 (has (m0 ++ (ptsL M).map (fun r => one (sim r))))) := hf1
      have hf1l : f1.length ≤ 557056 := set_len hf1
      have HB6 : Hid (Below w2.heap.size w2 w6) := HBw.out.trans (b6.mono HBw.out.size)
      have HST6 : Hid (Sl w6 (.slice ta Tn tc) T) := HST.out.below HB6.out
      have HSF6 : Hid (Sl w6 v6 f1) := o6.sl
      obtain ⟨f1a, f1c, hv6, kF, _⟩ := o6.sl
      subst hv6
      obtain ⟨a', c', e', kT, _⟩ := HST6.out
      injection e' with e1 e2 e3
      subst e1 e3
      clear e2 HBw b6 hf1 o6
      have C := rng.minus_any f1a ta f1c tc f1 T w6 (by omega) (by have := HTL.out; have := HTn.out; omega) kF kT
      rw [HTn.out] at C
      generalize hf1n : f1.length = f1n at *
      have HF1n : Hid (f1.length = f1n) := hf1n
      clear hf1n kF kT
      go_wp2_with fail
      refine C.mono ?_
      rintro e w7 ⟨v7, o, rfl, o7, ho, b7⟩
      clear C
      have HOS : Hid (IsSet o (fun x => has f1 x && !has T x)) := ho
      have hol : o.length ≤ 557056 := set_len ho
      have C := points_any (.slice ta Tn tc) T w7 (HST6.out.below b7) HIT.out.1
      have HQL : Hid ((ptsL T).length ≤ 1114112) := pts_len HIT.out.1
      have HQC : Hid (∀ r ∈ ptsL T, okI r) := fun r hr => code_ok (rng.has_code ((can_pts HIT.out.1 r).1 hr))
      obtain ⟨oa, oc, hv7⟩ := own_slice o7
      subst hv7
      have HO7 : Hid (rng.Own w7 w6.heap.size (.slice oa o.length oc) o) := o7
      have HB7 : Hid (Below w6.heap.size w6 w7) := b7
      clear ho o7 b7
      generalize hon : o.length = on at *
      have HON : Hid (o.length = on) := hon
      clear hon
      go_wp2_with fail
      refine C.mono ?_
      rintro e w8 ⟨v8, rfl, o8, b8⟩
      clear C
      have HB8 : Hid (Below w6.heap.size w6 w8) := HB7.out.trans (b8.mono HB7.out.size)
      have HO8 : Hid (rng.Own w8 w6.heap.size (.slice oa on oc) o) := HO7.out.below b8
      have HQ8 : Hid (IOwn w8 w6.heap.size v8 (ptsL T)) := rng.own_mono o8 HB7.out.size
      obtain ⟨qa, qc, hv8⟩ := own_slice o8
      subst hv8
      clear b8 HO7 HB7 o8
      obtain ⟨Q, hQ⟩ : ∃ Q, Q = ptsL T := ⟨_, rfl⟩
      have HQT : Hid (Q = ptsL T) := hQ
      rw [← hQ] at HQL HQC HQ8 ⊢
      clear hQ
      generalize hQn : Q.length = Qn at *
      have HQn : Hid (Q.length = Qn) := hQn
      have hql : Qn ≤ 1114112 := HQL.out
      have HBW : Hid (Below w.heap.size w w6) := HB2.out.trans (HB6.out.mono HB2.out.size)
      clear hQn HQL
      go_wp2
      go_loopw [9, 44] (fun u i wz => ∃ k : Nat, k ≤ Qn ∧ i = .int .i64 k ∧ Hid (rng.Own wz w6.heap.size u (o ++ ((Q.take k).filter (fun r => has f1 (sim r))).map one)) ∧ Hid (IOwn wz w6.heap.size (.slice qa Qn qc) Q) ∧ Hid (Below w6.heap.size w6 wz)) (fun _ i _ => Qn - (RowKit.intOf i).toNat)
      case atStart => exact ⟨0, Nat.zero_le _, rfl, by unfold Hid; rw [List.take_zero, List.filter_nil, List.map_nil, List.append_nil]; exact HO8.out, HQ8, HB8⟩
      case round =>
        clear HO8 HQ8 HB8
        obtain ⟨j, hj, rfl, HO, HP, HB⟩ := hrel
        by_cases hjt : j < Qn
        · have hjt' : (j : Int) < (Qn : Int) := by omega
          obtain ⟨a1, c1, e1, hat⟩ := io_at HP.out
          obtain ⟨r, b, ha1, hc, hr⟩ := hat j (by rw [HQn.out]; exact hjt)
          injection e1 with e1 e2 e3
          subst e1 ha1 e3
          have hro := HQC.out r (List.mem_of_getElem? hr)
          have C := simple_t t r wr (HT.out.below (HBW.out.trans (HB.out.mono HBW.out.size))) hro
          have hll : (o ++ ((Q.take j).filter (fun r => has f1 (sim r))).map one).length ≤ 1671168 := by
            have h9 := List.length_filter_le (fun r => has f1 (sim r)) (Q.take j)
            rw [List.length_take] at h9
            rw [List.length_append, List.length_map, HON.out]; omega
          have HTK : Hid (∀ b, has f1 (sim r) = b → o ++ ((Q.take (j + 1)).filter (fun r => has f1 (sim r))).map one = (o ++ ((Q.take j).filter (fun r => has f1 (sim r))).map one) ++ (if b then [one r] else [])) := fun b hb => by
            rw [take_snoc hr, List.filter_append, List.map_append, ← List.append_assoc, List.filter_cons, hb]
            cases b <;> rfl
          clear hat e2 hr
          generalize hFL : o ++ ((Q.take j).filter (fun r => has f1 (sim r))).map one = FL at *
          clear hFL
          obtain ⟨ya, yc, hy⟩ := own_slice HO.out
          subst hy
          generalize sim r = s at *
          go_wp2_with fail
          refine C.mono ?_
          rintro e x1 ⟨rfl, bx1⟩
          clear C
          have HSF : Hid (Sl x1 (.slice f1a f1n f1c) f1) := HSF6.out.below (HB.out.trans (bx1.mono HB.out.size))
          have C := rng.has_s (.slice f1a f1n f1c) f1 s x1 HSF.out (by have := HF1n.out; omega)
          go_wp2_with fail
          refine C.mono ?_
          rintro e x2 ⟨rfl, bx2⟩
          clear C HSF
          have BX : Below wr.heap.size wr x2 := bx1.trans (bx2.mono bx1.size)
          have HO2 : Hid (rng.Own x2 w6.heap.size (.slice ya FL.length yc) FL) := HO.out.below BX
          have HP2 : Hid (IOwn x2 w6.heap.size (.slice (some ⟨b, 0, none⟩) Qn qc) Q) := own_below HP.out BX
          have HB2' : Hid (Below w6.heap.size w6 x2) := HB.out.trans (BX.mono HB.out.size)
          clear bx1 bx2 BX HO HP HB hc
          have hs2 := HB2'.out.size
          cases hb : has f1 s with
          | true =>
            have HTK2 := HTK.out true hb
            have HTK3 : Hid (o ++ ((Q.take (j + 1)).filter (fun r => has f1 (sim r))).map one = FL ++ [one r]) := HTK2
            clear HTK HTK2 hb
            have C := one_any r x2
            go_wp2_with fail
            refine C.mono ?_
            rintro e x3 ⟨rfl, bx3⟩
            clear C
            have HO3 : Hid (rng.Own x3 w6.heap.size (.slice ya FL.length yc) FL) := HO2.out.below bx3
            have HP3 : Hid (IOwn x3 w6.heap.size (.slice (some ⟨b, 0, none⟩) Qn qc) Q) := own_below HP2.out bx3
            have HB3' : Hid (Below w6.heap.size w6 x3) := HB2'.out.trans (bx3.mono HB2'.out.size)
            clear bx3 HO2 HP2 HB2' hs2
            have hs3 := HB3'.out.size
            go_wp2_with (at_builtin; refine wpList_append_own _ rfl _ _ 36 rfl w6.heap.size 39 i0 (.agg #[.int .i64 0, .int .i64 0]) 2 16 Tryz.underlying36 hi hz0 hz1 hz2 rfl (by decide) _ _ _ rfl (World.ownsRow.alloc HO3.out _) ⟨x3.heap.size, 0, none⟩ 1 1 [.int .i64 r, .int .i64 r] rfl rfl (two_cells _ _ _ _) (two_one _ _) ?d3 ?d4 ?d5 ?_)
            case d3 => unfold maxLen; omega
            case d4 => omega
            case d5 => first | omega | (simp; omega)
            intro v' w9 hown9 hgrow _
            have R2 : Hid (Below w6.heap.size w6 w9) := Below.grown (HB3'.out.alloc hs3 _) hgrow (by simp; omega) (fun k e => (HO3.out.lt k e).1)
            have R1 : Hid (rng.Own w9 w6.heap.size v' (o ++ ((Q.take (j + 1)).filter (fun r => has f1 (sim r))).map one)) := by
              unfold Hid
              rw [HTK3.out]
              exact own_snoc (p := one r) hown9
            have R3 : Hid (IOwn w9 w6.heap.size (.slice (some ⟨b, 0, none⟩) Qn qc) Q) := by
              have q := World.ownsRow.alloc HP3.out (.cells #[.int .i64 r, .int .i64 r] 39)
              have q2 := World.ownsRow.alloc HO3.out (.cells #[.int .i64 r, .int .i64 r] 39)
              exact World.ownsRow.kept q hgrow (rng.own_apart q q2 (by decide))
            obtain ⟨xa', xc', hx'⟩ := own_slice hown9
            subst hx'
            clear hown9 hgrow HO3 HP3 HB3' HTK3
            go_wp2
            go_roundw
            case rel => exact ⟨j + 1, by omega, by go_num, R1, R3, R2⟩
            case measure => simp [RowKit.intOf]; omega
          | false =>
            have HTK2 := HTK.out false hb
            have R1 : Hid (rng.Own x2 w6.heap.size (.slice ya FL.length yc) (o ++ ((Q.take (j + 1)).filter (fun r => has f1 (sim r))).map one)) := by
              unfold Hid
              rw [HTK2]
              simpa using HO2.out
            clear HTK HTK2 hb HO2
            go_wp2
            go_roundw
            case rel => exact ⟨j + 1, by omega, by go_num, R1, HP2, HB2'⟩
            case measure => simp [RowKit.intOf]; omega
        · obtain rfl : j = Qn := by omega
          have hjt' : ¬ (j : Int) < (j : Int) := by omega
          have HFO : Hid (rng.Own wr w6.heap.size u9 (o ++ ((ptsL T).filter (fun r => has f1 (sim r))).map one)) := by
            have q := HO.out
            rw [List.take_of_length_le (by rw [HQn.out]; exact Nat.le_refl _)] at q
            rw [← HQT.out]
            exact q
          have hll : (o ++ ((ptsL T).filter (fun r => has f1 (sim r))).map one).length ≤ 1671168 := by
            have h9 := List.length_filter_le (fun r => has f1 (sim r)) (ptsL T)
            rw [← HQT.out, HQn.out] at h9
            rw [List.length_append, List.length_map, ← HQT.out, HON.out]; omega
          obtain ⟨fa2, fc2, hf2, hrv, _, _⟩ := HFO.out.view
          subst hf2
          have C := rng.make_any fa2 fc2 _ wr (by omega) hrv
          have HBw : Hid (Below w.heap.size w wr) := HBW.out.trans (HB.out.mono HBW.out.size)
          clear HO HP HFO HB hrv hll
          generalize (o ++ ((ptsL T).filter (fun r => has f1 (sim r))).map one).length = FLn2 at *
          go_wp2_with fail
          refine C.mono ?_
          rintro e w9 ⟨v9, res, rfl, o9, hres, b9⟩
          clear C
          have hfin := clo_prog HIT.out HM.out HM0.out HF1.out HOS.out hres
          have H9 : Hid (Sl w9 v9 res) := o9.sl
          obtain ⟨za, zc, hv9⟩ := own_slice o9
          subst hv9
          clear o9 hres
          generalize res.length = zn at *
          go_wp2
          go_ret
          exact ⟨_, res, rfl, H9.out, hfin, HBw.out.trans (b9.mono HBw.out.size)⟩
end Go.Proofs.YtochajmhljipbaaGreatDoor.fld
end

section
/- awake: the closure of k. -/
set_option linter.unusedVariables false
set_option linter.unusedSimpArgs false
namespace Go.Proofs.YtochajmhljipbaaGreatDoor.fld
open Go.RowKit Go.Maps
open Go.Proofs.YtochajmhljipbaaGreatDoor.lin Go.Proofs.YtochajmhljipbaaGreatDoor.prp
open Go.Proofs.YtochajmhljipbaaGreatDoor.rng (R has IsSet Sl code CanF)

def kL : List R := [(75, 75), (107, 107), (8490, 8490)]
theorem k_fin : tpts.all (fun x => (sim x == 107) == has kL x) = true := by decide +kernel
theorem k_told : toldB 75 = true ∧ toldB 8490 = true ∧ sim 107 = 107 := by decide +kernel
theorem has_one (a x : Int) : has [(a, a)] x = true ↔ code x = true ∧ x = a := by
  rw [rng.has_iff]
  refine and_congr_right fun _ => ⟨?_, ?_⟩
  · rintro ⟨p, hp, h1, h2⟩
    obtain rfl := List.mem_singleton.1 hp
    simp only at h1 h2
    omega
  · rintro rfl
    exact ⟨_, List.mem_singleton.2 rfl, Int.le_refl _, Int.le_refl _⟩
theorem k_clo : IsClo kL [(107, 107)] := by
  refine ⟨⟨by decide, by decide, by decide, by decide, by decide, by decide, by decide, by decide, by decide, trivial⟩, fun x hx => ?_⟩
  have e : (∃ y, has [(107, 107)] y = true ∧ sim y = sim x) ↔ sim x = 107 := by
    constructor
    · rintro ⟨y, hy, e⟩
      obtain rfl := ((has_one 107 y).1 hy).2
      rw [← e]; exact k_told.2.2
    · intro e
      exact ⟨107, (has_one 107 107).2 ⟨by decide, rfl⟩, by rw [e]; exact k_told.2.2⟩
  rw [e]
  cases t : toldB x
  · rw [sim_untold t, rng.has_iff]
    constructor
    · rintro ⟨_, p, hp, h1, h2⟩
      unfold kL at hp
      simp only [List.mem_cons, List.mem_nil_iff, or_false] at hp
      rcases hp with rfl | rfl | rfl
      · obtain rfl : x = 75 := by simp only at h1 h2; omega
        rw [k_told.1] at t; cases t
      · simp only at h1 h2; omega
      · obtain rfl : x = 8490 := by simp only at h1 h2; omega
        rw [k_told.2.1] at t; cases t
    · rintro rfl
      exact ⟨hx, (107, 107), by unfold kL; simp, Int.le_refl _, Int.le_refl _⟩
  · have := List.all_eq_true.1 k_fin x ((told_iff x).1 t)
    rw [beq_iff_eq] at this
    rw [← this, beq_iff_eq]
theorem rv_three (w : World) (a b c d e f : Int) : rng.RV (w.alloc (.cells #[.int .i64 a, .int .i64 b, .int .i64 c, .int .i64 d, .int .i64 e, .int .i64 f] 39)) (some ⟨w.heap.size, 0, none⟩) [(a, b), (c, d), (e, f)] := by
  refine .inr ⟨_, _, rfl, fun i p hi => ?_⟩
  match i, hi with
  | 0, hi => simp at hi; subst hi; simp
  | 1, hi => simp at hi; subst hi; simp
  | 2, hi => simp at hi; subst hi; simp
  | k + 3, hi => simp at hi
set_option maxHeartbeats 2000000 in
set_option maxRecDepth 1000000 in
theorem awake_any (w : World) (E : Env w) : Calls Tryz.prog 18 #[] w fun e w' => e = .returned (.bool true) ∧ Below w.heap.size w w' := by
  have C := load_any w E
  have HE : Hid (Env w) := E
  clear E
  go_enter Tryz.func18, Tryz.ntmps18
  go_wp2_with fail
  refine C.mono ?_
  rintro e w1 ⟨t, rfl, ht, b1⟩
  clear C
  have B1 : Below w1.heap.size w1 (w1.alloc (.cells #[.int .i64 107, .int .i64 107] 39)) := (Below.refl _ w1).alloc (Nat.le_refl _) _
  have HB1 : Hid (Below w.heap.size w (w1.alloc (.cells #[.int .i64 107, .int .i64 107] 39))) := b1.trans (B1.mono b1.size)
  have C := closure_t t (.slice (some ⟨w1.heap.size, 0, none⟩) 1 1) [(107, 107)] (w1.alloc (.cells #[.int .i64 107, .int .i64 107] 39)) (ht.below B1) (HE.out.below HB1.out) ⟨_, 1, rfl, rng.rv_one w1 107 107, fun e => by cases e⟩ (by decide)
  clear b1 B1 ht
  go_wp2_with fail
  refine C.mono ?_
  rintro e w2 ⟨v, r, rfl, hs, hr, b2⟩
  clear C
  obtain rfl : r = kL := hr.eq k_clo (fun x _ => Iff.rfl)
  have HB2 : Hid (Below w.heap.size w w2) := HB1.out.trans (b2.mono HB1.out.size)
  have B3 : Below w2.heap.size w2 (w2.alloc (.cells #[.int .i64 75, .int .i64 75, .int .i64 107, .int .i64 107, .int .i64 8490, .int .i64 8490] 39)) := (Below.refl _ w2).alloc (Nat.le_refl _) _
  have C := rng.equal_s v (.slice (some ⟨w2.heap.size, 0, none⟩) 3 3) kL kL _ (hs.below B3) ⟨_, 3, rfl, rv_three w2 75 75 107 107 8490 8490, fun e => by cases e⟩ (by decide) rfl
  have HB3 := HB2.out.trans (B3.mono HB2.out.size)
  clear hr b2 HB1 HB2 hs B3
  go_wp2_with fail
  refine C.mono ?_
  rintro e w3 ⟨rfl, b3⟩
  clear C
  go_wp2
  go_ret
  exact ⟨rfl, HB3.trans (b3.mono HB3.size)⟩
end Go.Proofs.YtochajmhljipbaaGreatDoor.fld
end

section
/- rubricatorref09.touched. -/
set_option linter.unusedVariables false
set_option linter.unusedSimpArgs false
namespace Go.Proofs.YtochajmhljipbaaGreatDoor.fld
open Go.RowKit Go.Maps
open Go.Proofs.YtochajmhljipbaaGreatDoor.lin Go.Proofs.YtochajmhljipbaaGreatDoor.prp
open Go.Proofs.YtochajmhljipbaaGreatDoor.rng (R has IsSet Sl code CanF)

/-- What the first k records touch. -/
def tcL (k : Nat) : List Int := (folL.take k).flatMap (fun x => (span x.1 x.2.1).flatMap tch)
theorem tc_take {k : Nat} {x : RL} (h : folL[k]? = some x) : tcL (k + 1) = tcL k ++ (span x.1 x.2.1).flatMap tch := by
  unfold tcL
  rw [List.take_add_one, h, List.flatMap_append]
  simp
theorem tc_all : tcL folL.length = touched := by
  unfold tcL touched tpts
  rw [List.take_length, List.flatMap_assoc]
theorem tc_len (k : Nat) : (tcL k).length ≤ 1000 := by
  have h1 : touched = tcL k ++ (folL.drop k).flatMap (fun x => (span x.1 x.2.1).flatMap tch) := by
    rw [← tc_all]
    unfold tcL
    rw [List.take_length, ← List.flatMap_append, List.take_append_drop]
  have h2 := touched_len
  rw [h1, List.length_append] at h2
  omega
theorem tch_len (l : List Int) : (l.flatMap tch).length ≤ 2 * l.length := by
  induction l with
  | nil => exact Nat.le_refl _
  | cons x l ih =>
    rw [List.flatMap_cons, List.length_append, List.length_cons]
    have : (tch x).length ≤ 2 := by unfold tch; split <;> simp
    omega
theorem tch_span {lo p : Int} (h : lo ≤ p) : (span lo p).flatMap tch = (span lo (p - 1)).flatMap tch ++ tch p := by
  rw [span_snoc h, List.flatMap_append]
  simp
theorem fol_lo : ∀ x ∈ folL, x.1 ≤ x.2.1 := by decide +kernel
set_option maxHeartbeats 8000000 in
set_option maxRecDepth 1000000 in
theorem rtouched_any (u : Nat) (w : World) (h : RTabs w u) : Calls Tryz.prog 54 #[.pointer (some ⟨u, 0, none⟩)] w fun e w' => ∃ v, e = .returned v ∧ IOwn w' w.heap.size v touched ∧ Below w.heap.size w w' := by
  obtain ⟨i0, hi, hz0, hy1, hz2⟩ := info_parts infoInt
  obtain ⟨vd, hcd, hVd⟩ := h.fol
  obtain ⟨rb, ro, rc, rfl, hrec⟩ := view_recs hVd fol_n.1
  have HT : Hid (RTabs w u) := h
  have HREC : Hid (∀ (i : Nat) (r : RL), folL[i]? = some r → ∃ g o2 c2, RecM w rb (ro + i * 3) r g o2 c2) := hrec
  have HN : Hid (∀ k, k < folL.length → ∃ x, folL[k]? = some x ∧ x.1 ≤ x.2.1 ∧ 0 ≤ x.1 ∧ x.2.1 ≤ 1114111) := fun k hk => ⟨_, List.getElem?_eq_getElem hk, fol_lo _ (List.getElem_mem hk), fol_code _ (List.getElem_mem hk)⟩
  have HTK : Hid (∀ (k : Nat) (x : RL), folL[k]? = some x → tcL (k + 1) = tcL k ++ (span x.1 x.2.1).flatMap tch) := fun k x h => tc_take h
  have HALL : Hid (tcL folL.length = touched) := tc_all
  have hn1 : folL.length ≤ 1000 := fol_n.2
  clear h hVd hrec
  generalize folL.length = n at *
  go_enter Tryz.func54, Tryz.ntmps54
  go_wp2
  go_loopw [3, 13] (fun v i wr => ∃ k : Nat, k ≤ n ∧ i = .int .i64 k ∧ Hid (IOwn wr w.heap.size v (tcL k)) ∧ Hid (Below w.heap.size w wr)) (fun _ i _ => n - (RowKit.intOf i).toNat)
  case atStart => exact ⟨0, Nat.zero_le _, rfl, World.ownsRow_nil _ _ _ _, Below.refl _ _⟩
  case round =>
    obtain ⟨k, hk, rfl, HO, HB⟩ := hrel
    by_cases hlt : k < n
    · have hlt' : (k : Int) < (n : Int) := by omega
      obtain ⟨x, hx, hx1, hx2, hx3⟩ := HN.out k hlt
      obtain ⟨fg, fo, fc, hrm0⟩ := HREC.out k x hx
      have hrm := hrm0.below HB.out
      have q0 := hrm.lo
      have q1 := hrm.hi
      have q2 := hrm.fv
      have hk2 := HTK.out k x hx
      have hal := tc_len k
      obtain ⟨lo, hi', fs⟩ := x
      simp only at q0 q1 q2 hx1 hx2 hx3 hk2
      have HKK : Hid (tcL (k + 1) = tcL k ++ (span lo hi').flatMap tch) := hk2
      have hsz := HB.out.size
      have HOA : Hid (∀ x, IOwn (wr.alloc x) w.heap.size u3 (tcL k)) := fun x => World.ownsRow.alloc HO.out x
      have HBA : Hid (∀ x, Below w.heap.size w (wr.alloc x)) := fun x => HB.out.alloc hsz x
      clear HO HB hrm hrm0 hx hk2
      generalize fs.length = n3 at *
      have HNW : Hid ((wr.alloc (.cells #[.int .i64 lo, .int .i64 hi', .slice (some ⟨fg, fo, none⟩) n3 fc] 74)).heap[wr.heap.size]? = some (.cells #[.int .i64 lo, .int .i64 hi', .slice (some ⟨fg, fo, none⟩) n3 fc] 74 (0, 0))) := World.alloc_heap_new _ _
      generalize tcL k = AL at *
      go_wp2
      clear q0 q1 q2
      generalize wr.heap.size = xb at *
      go_loopw [3, 6] (fun v x wz => ∃ p : Int, lo ≤ p ∧ p ≤ hi' + 1 ∧ x = .int .i64 p ∧ Hid (IOwn wz w.heap.size v (AL ++ (span lo (p - 1)).flatMap tch)) ∧ Hid (Below w.heap.size w wz) ∧ Hid (wz.heap[xb]? = some (.cells #[.int .i64 lo, .int .i64 hi', .slice (some ⟨fg, fo, none⟩) n3 fc] 74 (0, 0)))) (fun _ x _ => (hi' + 1 - RowKit.intOf x).toNat)
      case atStart => exact ⟨lo, by omega, by omega, rfl, by rw [span_nil, List.flatMap_nil, List.append_nil]; exact HOA.out _, HBA.out _, HNW.out⟩
      case round =>
        clear HOA HBA HNW
        obtain ⟨p, hp1, hp2, rfl, HO, HB, HX⟩ := hrel
        have x1 := cell_of_row wr xb 1 _ _ _ HX.out
        simp at x1
        by_cases hpi : p ≤ hi'
        · obtain ⟨ya, yc, rfl⟩ := own_slice HO.out
          have HNE : Hid ((Value.slice ya (AL ++ (span lo (p - 1)).flatMap tch).length yc).ownBlock ≠ some xb) := row_ne HO.out HX.out (by decide)
          have hsp : (AL ++ (span lo (p - 1)).flatMap tch).length ≤ 3000000 := by
            have := tch_len (span lo (p - 1))
            rw [span_len] at this
            rw [List.length_append]
            omega
          have HSN : Hid (AL ++ (span lo p).flatMap tch = (AL ++ (span lo (p - 1)).flatMap tch) ++ tch p) := by unfold Hid; rw [tch_span hp1, List.append_assoc]
          have hs1 := HB.out.size
          have wp1 : IntKind.i64.wrap (p + 1) = p + 1 := by rw [IntKind.wrap_i64]; omega
          generalize AL ++ (span lo (p - 1)).flatMap tch = BL at *
          go_wp2_with (at_builtin; refine wpList_append_own _ rfl _ _ 22 rfl w.heap.size 3 i0 (.int .i64 0) 1 8 Tryz.underlying22 hi hz0 hy1 hz2 rfl (by decide) _ _ _ rfl (HO.out.alloc _) ⟨wr.heap.size, 0, none⟩ 1 1 [.int .i64 p] rfl rfl (cell_one_new _ _ _) ?c2 ?c3 ?c4 ?c5 ?_)
          case c2 => first | (intro u hu; simp at hu; subst hu; rfl) | simp [Value.oneCell']
          case c3 => unfold maxLen; omega
          case c4 => omega
          case c5 => first | omega | (simp; omega)
          intro v' w5 hown5 hgrow _
          have R2 : Hid (Below w.heap.size w w5) := Below.grown (HB.out.alloc hs1 _) hgrow (by simp; omega) (fun k e => (HO.out.lt k e).1)
          have R1 : Hid (IOwn w5 w.heap.size v' (BL ++ [p])) := io_snoc hown5
          have R3 : Hid (w5.heap[xb]? = some (.cells #[.int .i64 lo, .int .i64 hi', .slice (some ⟨fg, fo, none⟩) n3 fc] 74 (0, 0))) := grow_block hgrow HX.out HNE.out
          obtain ⟨xa', xc', hx'⟩ := own_slice R1.out
          subst hx'
          clear hown5 hgrow HO HB HX HNE x1
          have C := rsimple_t u p w5 (HT.out.below R2.out) (by unfold okI; omega)
          have hbl : (BL ++ [p]).length ≤ 3000001 := by rw [List.length_append]; simp; omega
          have HTC : Hid (tch p = if sim p = p then [p] else [p, sim p]) := rfl
          generalize hCL : BL ++ [p] = CL at *
          have HCL : Hid (CL = BL ++ [p]) := hCL.symm
          clear hCL
          generalize sim p = s at *
          go_wp2_with fail
          refine C.mono ?_
          rintro e w6 ⟨rfl, b6⟩
          clear C
          have P2 : Hid (Below w.heap.size w w6) := R2.out.trans (b6.mono R2.out.size)
          have P1 : Hid (IOwn w6 w.heap.size (.slice xa' CL.length xc') CL) := own_below R1.out b6
          have P3 : Hid (w6.heap[xb]? = some (.cells #[.int .i64 lo, .int .i64 hi', .slice (some ⟨fg, fo, none⟩) n3 fc] 74 (0, 0))) := (b6.block _ (Array.getElem?_eq_some_iff.1 R3.out).1).trans R3.out
          clear R1 R2 R3 b6
          have hs6 := P2.out.size
          by_cases hsp2 : s = p
          · have Q1 : Hid (IOwn w6 w.heap.size (.slice xa' CL.length xc') (AL ++ (span lo (p + 1 - 1)).flatMap tch)) := by
              unfold Hid
              rw [show p + 1 - 1 = p by omega, HSN.out, HTC.out, if_pos hsp2, ← HCL.out]
              exact P1.out
            have hb1 : (s == p) = true := by rw [hsp2]; exact beq_self_eq_true _
            have hb2 : (s != p) = false := by rw [hsp2]; simp
            clear P1 HSN HTC HCL hsp2
            generalize CL.length = cn at *
            go_wp2
            exact ⟨⟨p + 1, by omega, by omega, rfl, Q1, P2, P3⟩, by simp [RowKit.intOf]; omega⟩
          · have HNE : Hid ((Value.slice xa' CL.length xc').ownBlock ≠ some xb) := row_ne P1.out P3.out (by decide)
            have HS2 : Hid (AL ++ (span lo p).flatMap tch = CL ++ [s]) := by
              unfold Hid
              rw [HSN.out, HTC.out, if_neg hsp2, HCL.out, List.append_assoc]
              rfl
            have hb1 : (s == p) = false := beq_eq_false_iff_ne.2 hsp2
            have hb2 : (s != p) = true := bne_iff_ne.2 hsp2
            clear HSN HTC HCL hsp2
            go_wp2_with (at_builtin; refine wpList_append_own _ rfl _ _ 22 rfl w.heap.size 3 i0 (.int .i64 0) 1 8 Tryz.underlying22 hi hz0 hy1 hz2 rfl (by decide) _ _ _ rfl (P1.out.alloc _) ⟨w6.heap.size, 0, none⟩ 1 1 [.int .i64 s] rfl rfl (cell_one_new _ _ _) ?d2 ?d3 ?d4 ?d5 ?_)
            case d2 => first | (intro u hu; simp at hu; subst hu; rfl) | simp [Value.oneCell']
            case d3 => unfold maxLen; omega
            case d4 => omega
            case d5 => first | omega | (simp; omega)
            intro v' w7 hown7 hgrow _
            have R2 : Hid (Below w.heap.size w w7) := Below.grown (P2.out.alloc hs6 _) hgrow (by simp; omega) (fun k e => (P1.out.lt k e).1)
            have R1 : Hid (IOwn w7 w.heap.size v' (AL ++ (span lo (p + 1 - 1)).flatMap tch)) := by
              unfold Hid
              rw [show p + 1 - 1 = p by omega, HS2.out]
              exact io_snoc hown7
            have R3 : Hid (w7.heap[xb]? = some (.cells #[.int .i64 lo, .int .i64 hi', .slice (some ⟨fg, fo, none⟩) n3 fc] 74 (0, 0))) := grow_block hgrow P3.out HNE.out
            obtain ⟨za', zc', hz'⟩ := own_slice hown7
            subst hz'
            clear hown7 hgrow P1 P2 P3 HNE HS2
            go_wp2
            exact ⟨⟨p + 1, by omega, by omega, rfl, R1, R2, R3⟩, by simp [RowKit.intOf]; omega⟩
        · obtain rfl : p = hi' + 1 := by omega
          have R1 : Hid (IOwn wr w.heap.size u3 (tcL (k + 1))) := by
            unfold Hid
            rw [HKK.out]
            have := HO.out
            rw [show hi' + 1 - 1 = hi' by omega] at this
            exact this
          clear HO HX
          go_wp2
          exact ⟨⟨k + 1, by omega, by go_num, R1, HB⟩, by simp [RowKit.intOf]; omega⟩
    · obtain rfl : k = n := by omega
      have hlt' : ¬ (k : Int) < (k : Int) := by omega
      have R1 : Hid (IOwn wr w.heap.size u3 touched) := by
        have h1 := HO.out
        rw [HALL.out] at h1
        exact h1
      clear HO
      go_wp2
      go_ret
      exact ⟨_, rfl, R1.out, HB.out⟩
end Go.Proofs.YtochajmhljipbaaGreatDoor.fld
end

section
/- rubricatorref09.Closure. -/
set_option linter.unusedVariables false
set_option linter.unusedSimpArgs false
namespace Go.Proofs.YtochajmhljipbaaGreatDoor.fld
open Go.RowKit Go.Maps
open Go.Proofs.YtochajmhljipbaaGreatDoor.lin Go.Proofs.YtochajmhljipbaaGreatDoor.prp
open Go.Proofs.YtochajmhljipbaaGreatDoor.rng (R has IsSet Sl code CanF)

set_option maxHeartbeats 8000000 in
set_option maxRecDepth 1000000 in
theorem rclosure_t (t : Nat) (v : Value) (a : List R) (w : World) (h : RTabs w t) (hs : Sl w v a) (hn : a.length ≤ 1000000) :
    Calls Tryz.prog 22 #[.pointer (some ⟨t, 0, none⟩), v] w fun e w' => ∃ v' r, e = .returned v' ∧ Sl w' v' r ∧ IsClo r a ∧ Below w.heap.size w w' := by
  obtain ⟨i0, hi, hz0, hz1, hz2⟩ := rng.info_parts rng.infoRange
  have HT : Hid (RTabs w t) := h
  have HS : Hid (Sl w v a) := hs
  have C := rng.rmake_s v a w hs hn
  obtain ⟨va, vc, rfl, _⟩ := hs
  clear h
  obtain ⟨an, ha⟩ : ∃ n, n = a.length := ⟨_, rfl⟩
  have HAN : Hid (an = a.length) := ha
  rw [← ha] at hn HS C ⊢
  clear ha
  go_enter Tryz.func22, Tryz.ntmps22
  go_wp2_with fail
  refine C.mono ?_
  rintro e w1 ⟨v1, out, rfl, s1, hout, b1⟩
  clear C
  have HOUT : Hid (IsSet out (has a)) := hout
  have HSO : Hid (Sl w1 v1 out) := s1
  have C := rtouched_any t w1 (HT.out.below b1)
  obtain ⟨oa, oc, rfl, _⟩ := s1
  have HOL : Hid (out.length ≤ 557056) := set_len hout
  generalize hon : out.length = on at *
  have HON : Hid (out.length = on) := hon
  clear hon hout
  go_wp2_with fail
  refine C.mono ?_
  rintro e w2 ⟨v2, rfl, o2, b2⟩
  clear C
  have HB2 : Hid (Below w.heap.size w w2) := b1.trans (b2.mono b1.size)
  have HT2 : Hid (RTabs w2 t) := HT.out.below HB2.out
  have HSA : Hid (Sl w2 (.slice va an vc) a) := HS.out.below HB2.out
  have HSO2 : Hid (Sl w2 (.slice oa on oc) out) := HSO.out.below b2
  obtain ⟨la, lc, rfl, hat⟩ := io_at o2
  have htl := touched_len
  have HCD : Hid (∀ r ∈ touched, okI r) := fun r hr => code_ok (touched_code hr)
  have HAT : Hid (∀ k, k < touched.length → ∃ x b, la = some ⟨b, 0, none⟩ ∧ w2.cell? ⟨b, k, none⟩ = some (.int .i64 x) ∧ touched[k]? = some x) := hat
  clear b1 b2 HS HSO HT o2 hat
  obtain ⟨L, hL⟩ : ∃ L, L = touched := ⟨_, rfl⟩
  have HL : Hid (L = touched) := hL
  rw [← hL] at HAT HCD htl ⊢
  clear hL
  generalize hLn : L.length = Ln at *
  have HLn : Hid (L.length = Ln) := hLn
  clear hLn
  go_wp2
  go_loopw [7, 19] (fun u i wr => ∃ k : Nat, k ≤ Ln ∧ i = .int .i64 k ∧ Hid (rng.Own wr w2.heap.size u (((L.take k).filter (has a)).map (fun r => one (sim r)))) ∧ Hid (Below w2.heap.size w2 wr)) (fun _ i _ => Ln - (RowKit.intOf i).toNat)
  case atStart => exact ⟨0, Nat.zero_le _, rfl, World.ownsRow_nil _ _ _ _, Below.refl _ _⟩
  case round =>
    obtain ⟨k, hk, rfl, HO, HB⟩ := hrel
    by_cases hlt : k < Ln
    · have hlt' : (k : Int) < (Ln : Int) := by omega
      obtain ⟨r, b, rfl, hc0, hr⟩ := HAT.out k hlt
      have hc := cell_below HB.out hc0
      have hro := HCD.out r (List.mem_of_getElem? hr)
      have C := rng.rhas_s (.slice va an vc) a r wr (HSA.out.below HB.out) (by rw [← HAN.out]; exact hn)
      have hll : (((L.take k).filter (has a)).map (fun r => one (sim r))).length ≤ 1000 := by
        have h9 := List.length_filter_le (has a) (L.take k)
        rw [List.length_take] at h9
        rw [List.length_map]; omega
      have HTK : Hid (∀ b, has a r = b → ((L.take (k + 1)).filter (has a)).map (fun r => one (sim r)) = (((L.take k).filter (has a)).map (fun r => one (sim r))) ++ (if b then [one (sim r)] else [])) := fun b hb => by
        rw [take_snoc hr, List.filter_append, List.map_append, List.filter_cons, hb]
        cases b <;> rfl
      clear hr hc0
      generalize hFL : ((L.take k).filter (has a)).map (fun r => one (sim r)) = FL at *
      clear hFL
      obtain ⟨ya, yc, hy⟩ := own_slice HO.out
      subst hy
      go_wp2_with fail
      refine C.mono ?_
      rintro e x1 ⟨rfl, bx1⟩
      clear C
      have HO2 : Hid (rng.Own x1 w2.heap.size (.slice ya FL.length yc) FL) := HO.out.below bx1
      have HB2' : Hid (Below w2.heap.size w2 x1) := HB.out.trans (bx1.mono HB.out.size)
      clear bx1 HO HB hc
      cases hb : has a r with
      | true =>
        have HTK2 := HTK.out true hb
        have HTK3 : Hid (((L.take (k + 1)).filter (has a)).map (fun r => one (sim r)) = FL ++ [one (sim r)]) := HTK2
        clear HTK HTK2 hb
        have C := rsimple_t t r x1 (HT2.out.below HB2'.out) hro
        have C2 : Hid (∀ W, Below x1.heap.size x1 W → Calls Tryz.prog 12 #[.pointer (some ⟨t, 0, none⟩), .int .i64 r] W fun e w' => e = .returned (.int .i64 (sim r)) ∧ Below W.heap.size W w') := fun W hW => rsimple_t t r W (HT2.out.below (HB2'.out.trans (hW.mono HB2'.out.size))) hro
        generalize sim r = s at *
        go_wp2_with fail
        refine C.mono ?_
        rintro e x2 ⟨rfl, bx2⟩
        clear C
        have C := C2.out x2 bx2
        go_wp2_with fail
        refine C.mono ?_
        rintro e x3 ⟨rfl, bx3⟩
        clear C C2
        have BX : Below x1.heap.size x1 x3 := bx2.trans (bx3.mono bx2.size)
        have HO3 : Hid (rng.Own x3 w2.heap.size (.slice ya FL.length yc) FL) := HO2.out.below BX
        have HB3 : Hid (Below w2.heap.size w2 x3) := HB2'.out.trans (BX.mono HB2'.out.size)
        clear bx2 bx3 BX HO2 HB2'
        have hs3 := HB3.out.size
        go_wp2_with (at_builtin; refine wpList_append_own _ rfl _ _ 36 rfl w2.heap.size 39 i0 (.agg #[.int .i64 0, .int .i64 0]) 2 16 Tryz.underlying36 hi hz0 hz1 hz2 rfl (by decide) _ _ _ rfl (World.ownsRow.alloc HO3.out _) ⟨x3.heap.size, 0, none⟩ 1 1 [.int .i64 s, .int .i64 s] rfl rfl (two_cells _ _ _ _) (two_one _ _) ?c3 ?c4 ?c5 ?_)
        case c3 => unfold maxLen; omega
        case c4 => omega
        case c5 => first | omega | (simp; omega)
        intro v' w9 hown9 hgrow _
        have R2 : Hid (Below w2.heap.size w2 w9) := Below.grown (HB3.out.alloc hs3 _) hgrow (by simp; omega) (fun k e => (HO3.out.lt k e).1)
        have R1 : Hid (rng.Own w9 w2.heap.size v' (((L.take (k + 1)).filter (has a)).map (fun r => one (sim r)))) := by
          unfold Hid
          rw [HTK3.out]
          exact own_snoc (p := one s) hown9
        obtain ⟨xa', xc', hx'⟩ := own_slice hown9
        subst hx'
        clear hown9 hgrow HO3 HB3 HTK3
        go_wp2
        go_roundw
        case rel => exact ⟨k + 1, by omega, by go_num, R1, R2⟩
        case measure => simp [RowKit.intOf]; omega
      | false =>
        have HTK2 := HTK.out false hb
        have R1 : Hid (rng.Own x1 w2.heap.size (.slice ya FL.length yc) (((L.take (k + 1)).filter (has a)).map (fun r => one (sim r)))) := by
          unfold Hid
          rw [HTK2]
          simpa using HO2.out
        clear HTK HTK2 hb HO2
        go_wp2
        go_roundw
        case rel => exact ⟨k + 1, by omega, by go_num, R1, HB2'⟩
        case measure => simp [RowKit.intOf]; omega
    · obtain rfl : k = Ln := by omega
      have hlt' : ¬ (k : Int) < (k : Int) := by omega
      obtain ⟨F, hF⟩ : ∃ F, F = ((L.take k).filter (has a)).map (fun r => one (sim r)) := ⟨_, rfl⟩
      have HF : Hid (F = (touched.filter (has a)).map (fun r => one (sim r))) := by
        unfold Hid
        rw [hF, List.take_of_length_le (by rw [HLn.out]; exact Nat.le_refl _), HL.out]
      have hfl : F.length ≤ 1000 := by
        have h9 := List.length_filter_le (has a) (L.take k)
        rw [List.length_take] at h9
        rw [hF, List.length_map]; omega
      have HOF := HO.out
      rw [← hF] at HOF
      have HSF : Hid (Sl wr u7 F) := HOF.sl
      obtain ⟨fa, fc, hfe⟩ := own_slice HOF
      subst hfe
      have HBW : Hid (Below w.heap.size w wr) := HB2.out.trans (HB.out.mono HB2.out.size)
      have HT3 : Hid (RTabs wr t) := HT2.out.below HB.out
      have HSO3 : Hid (Sl wr (.slice oa on oc) out) := HSO2.out.below HB.out
      have HAT3 : Hid (∀ k', k' < k → ∃ x b, la = some ⟨b, 0, none⟩ ∧ wr.cell? ⟨b, k', none⟩ = some (.int .i64 x) ∧ L[k']? = some x) := fun k' hk' => by
        obtain ⟨x, b, e1, e2, e3⟩ := HAT.out k' hk'
        exact ⟨x, b, e1, cell_below HB.out e2, e3⟩
      clear HO HOF HB hF HT2 HSA HSO2 HAT HB2
      generalize wr = w3 at *
      generalize hFn : F.length = Fn at *
      have HFn : Hid (F.length = Fn) := hFn
      clear hFn
      go_wp2
      go_loopw [10, 39] (fun u i wz => ∃ j : Nat, j ≤ k ∧ i = .int .i64 j ∧ Hid (rng.Own wz w3.heap.size u (((L.take j).filter (fun r => has F (sim r))).map one)) ∧ Hid (Below w3.heap.size w3 wz)) (fun _ i _ => k - (RowKit.intOf i).toNat)
      case atStart => exact ⟨0, Nat.zero_le _, rfl, World.ownsRow_nil _ _ _ _, Below.refl _ _⟩
      case round =>
        obtain ⟨j, hj, rfl, HO, HB⟩ := hrel
        by_cases hjt : j < k
        · have hjt' : (j : Int) < (k : Int) := by omega
          obtain ⟨r, b, rfl, hc0, hr⟩ := HAT3.out j hjt
          have hc := cell_below HB.out hc0
          have hro := HCD.out r (List.mem_of_getElem? hr)
          have C := rsimple_t t r wr (HT3.out.below HB.out) hro
          have hll : (((L.take j).filter (fun r => has F (sim r))).map one).length ≤ 1000 := by
            have h9 := List.length_filter_le (fun r => has F (sim r)) (L.take j)
            rw [List.length_take] at h9
            rw [List.length_map]; omega
          have HTK : Hid (∀ b, has F (sim r) = b → ((L.take (j + 1)).filter (fun r => has F (sim r))).map one = (((L.take j).filter (fun r => has F (sim r))).map one) ++ (if b then [one r] else [])) := fun b hb => by
            rw [take_snoc hr, List.filter_append, List.map_append, List.filter_cons, hb]
            cases b <;> rfl
          clear hr hc0
          generalize hFL : ((L.take j).filter (fun r => has F (sim r))).map one = FL at *
          clear hFL
          obtain ⟨ya, yc, hy⟩ := own_slice HO.out
          subst hy
          generalize sim r = s at *
          go_wp2_with fail
          refine C.mono ?_
          rintro e x1 ⟨rfl, bx1⟩
          clear C
          have C := rng.rhas_s (.slice fa Fn fc) F s x1 (HSF.out.below (HB.out.trans (bx1.mono HB.out.size))) (by have := HFn.out; omega)
          go_wp2_with fail
          refine C.mono ?_
          rintro e x2 ⟨rfl, bx2⟩
          clear C
          have BX : Below wr.heap.size wr x2 := bx1.trans (bx2.mono bx1.size)
          have HO2 : Hid (rng.Own x2 w3.heap.size (.slice ya FL.length yc) FL) := HO.out.below BX
          have HB2' : Hid (Below w3.heap.size w3 x2) := HB.out.trans (BX.mono HB.out.size)
          clear bx1 bx2 BX HO HB hc
          have hs2 := HB2'.out.size
          cases hb : has F s with
          | true =>
            have HTK2 := HTK.out true hb
            have HTK3 : Hid (((L.take (j + 1)).filter (fun r => has F (sim r))).map one = FL ++ [one r]) := HTK2
            clear HTK HTK2 hb
            go_wp2_with (at_builtin; refine wpList_append_own _ rfl _ _ 36 rfl w3.heap.size 39 i0 (.agg #[.int .i64 0, .int .i64 0]) 2 16 Tryz.underlying36 hi hz0 hz1 hz2 rfl (by decide) _ _ _ rfl (World.ownsRow.alloc HO2.out _) ⟨x2.heap.size, 0, none⟩ 1 1 [.int .i64 r, .int .i64 r] rfl rfl (two_cells _ _ _ _) (two_one _ _) ?d3 ?d4 ?d5 ?_)
            case d3 => unfold maxLen; omega
            case d4 => omega
            case d5 => first | omega | (simp; omega)
            intro v' w9 hown9 hgrow _
            have R2 : Hid (Below w3.heap.size w3 w9) := Below.grown (HB2'.out.alloc hs2 _) hgrow (by simp; omega) (fun k e => (HO2.out.lt k e).1)
            have R1 : Hid (rng.Own w9 w3.heap.size v' (((L.take (j + 1)).filter (fun r => has F (sim r))).map one)) := by
              unfold Hid
              rw [HTK3.out]
              exact own_snoc (p := one r) hown9
            obtain ⟨xa', xc', hx'⟩ := own_slice hown9
            subst hx'
            clear hown9 hgrow HO2 HB2' HTK3
            go_wp2
            go_roundw
            case rel => exact ⟨j + 1, by omega, by go_num, R1, R2⟩
            case measure => simp [RowKit.intOf]; omega
          | false =>
            have HTK2 := HTK.out false hb
            have R1 : Hid (rng.Own x2 w3.heap.size (.slice ya FL.length yc) (((L.take (j + 1)).filter (fun r => has F (sim r))).map one)) := by
              unfold Hid
              rw [HTK2]
              simpa using HO2.out
            clear HTK HTK2 hb HO2
            go_wp2
            go_roundw
            case rel => exact ⟨j + 1, by omega, by go_num, R1, HB2'⟩
            case measure => simp [RowKit.intOf]; omega
        · obtain rfl : j = k := by omega
          have hjt' : ¬ (j : Int) < (j : Int) := by omega
          obtain ⟨G, hG⟩ : ∃ G, G = ((L.take j).filter (fun r => has F (sim r))).map one := ⟨_, rfl⟩
          have HG : Hid (G = (touched.filter (fun r => has F (sim r))).map one) := by
            unfold Hid
            rw [hG, List.take_of_length_le (by rw [HLn.out]; exact Nat.le_refl _), HL.out]
          have hgl : G.length ≤ 1000 := by
            have h9 := List.length_filter_le (fun r => has F (sim r)) (L.take j)
            rw [List.length_take] at h9
            rw [hG, List.length_map]; omega
          have HOG := HO.out
          rw [← hG] at HOG
          have C := rng.runion_s (.slice oa on oc) _ out G wr (HSO3.out.below HB.out) HOG.sl (by have := HOL.out; have := HON.out; omega) (by omega)
          obtain ⟨ga, gc, hge⟩ := own_slice HOG
          subst hge
          have HBw : Hid (Below w.heap.size w wr) := HBW.out.trans (HB.out.mono HBW.out.size)
          clear HO HOG HB hG
          generalize G.length = Gn at *
          go_wp2_with fail
          refine C.mono ?_
          rintro e w9 ⟨v9, res, rfl, s9, hres, b9⟩
          clear C
          have hfin := clo_ref HOUT.out HF.out HG.out hres
          have H9 : Hid (Sl w9 v9 res) := s9
          obtain ⟨za, zc, rfl, _⟩ := s9
          clear hres
          generalize res.length = zn at *
          go_wp2
          go_ret
          exact ⟨_, res, rfl, H9.out, hfin, HBw.out.trans (b9.mono HBw.out.size)⟩
end Go.Proofs.YtochajmhljipbaaGreatDoor.fld
end
