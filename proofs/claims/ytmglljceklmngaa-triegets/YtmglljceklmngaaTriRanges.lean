/- The walk of TrieRanges. -/
import Derived.Test.YtmglljceklmngaaTriRefRanges
set_option linter.unusedVariables false
set_option linter.unusedSimpArgs false
namespace Go.Proofs.Ytmglljceklmngaa.tri
open Go.RowKit
open Go.Proofs.Ytmglljceklmngaa.rng (ret_int ret_bool below_drewN info_parts own_below' IsSet code has infoInt)

/-- A list of numbers that came in. -/
def ArgI (w : World) (v : Value) (l : List Int) : Prop := ∃ ao cap, v = .slice ao l.length cap ∧ rng.IV w ao l ∧ (ao = none → cap = 0) ∧ l.length ≤ cap ∧ cap ≤ 9223372036854775807
theorem iv_take {w : World} {ao : Option Addr} {l : List Int} (h : rng.IV w ao l) (n : Nat) : rng.IV w ao (l.take n) := by
  rcases h with rfl | ⟨b, off, rfl, h⟩
  · exact .inl (by simp)
  · exact .inr ⟨b, off, rfl, fun i x hi => h i x (by rw [List.getElem?_take] at hi; split at hi; exact hi; cases hi)⟩
/-- The places, below j, at which v stands. -/
def plc (vals : List Int) (v : Int) : Nat → List Int
  | 0 => []
  | j + 1 => plc vals v j ++ (if vals[j]? = some v then [(j : Int)] else [])
theorem plc_len (vals : List Int) (v : Int) : ∀ j, (plc vals v j).length ≤ j
  | 0 => Nat.le_refl _
  | j + 1 => by
    have := plc_len vals v j
    rw [plc, List.length_append]; split <;> simp <;> omega
theorem among_plc (vals : List Int) (v : Int) (i : Nat) : ∀ j, among (plc vals v j) (i : Int) = decide (i < j ∧ vals[i]? = some v)
  | 0 => by simp [plc, among]
  | j + 1 => by
    have ih := among_plc vals v i j
    rw [plc]
    by_cases c : vals[j]? = some v
    · rw [if_pos c, among_snoc, ih, Bool.eq_iff_iff]
      simp only [Bool.or_eq_true, decide_eq_true_eq, beq_iff_eq]
      constructor
      · rintro (⟨h1, h2⟩ | h)
        · exact ⟨by omega, h2⟩
        · obtain rfl : j = i := by omega
          exact ⟨by omega, c⟩
      · rintro ⟨h1, h2⟩
        by_cases hij : i = j
        · right; omega
        · left; exact ⟨by omega, h2⟩
    · rw [if_neg c, List.append_nil, ih, Bool.eq_iff_iff]
      simp only [decide_eq_true_eq]
      constructor
      · rintro ⟨h1, h2⟩; exact ⟨by omega, h2⟩
      · rintro ⟨h1, h2⟩
        refine ⟨?_, h2⟩
        by_cases hij : i = j
        · subst hij; exact absurd h2 c
        · omega
/-- The value at a place. -/
def VI (vals : List Int) (i : Int) : Int := (vals[i.toNat]?).getD 0
theorem tell_places (vals : List Int) (v : Int) (o : Option Int) (h : ∀ i, o = some i → 0 ≤ i ∧ i < (vals.length : Int)) : tell (fun i => VI vals i == v) o = tell (among (plc vals v vals.length)) o := by
  cases o with
  | none => rfl
  | some i =>
    obtain ⟨h0, h1⟩ := h i rfl
    obtain ⟨k, rfl⟩ : ∃ k : Nat, i = (k : Int) := ⟨i.toNat, by omega⟩
    have hk : k < vals.length := by omega
    simp only [tell]
    rw [among_plc, Bool.eq_iff_iff]
    simp only [VI, beq_iff_eq, decide_eq_true_eq, Int.toNat_natCast]
    rw [List.getElem?_eq_getElem hk]
    simp [hk]
theorem vals_iv {w : World} {ao : Option Addr} {vals : List Int} (h : rng.IV w ao vals) : num.Vals w (VI vals) ao vals.length := by
  rcases h with rfl | ⟨b, off, rfl, h⟩
  · exact .inl rfl
  · refine .inr ⟨b, off, rfl, fun i hi => ?_⟩
    rw [h i _ (List.getElem?_eq_getElem hi)]
    simp only [VI, Int.toNat_natCast]
    rw [List.getElem?_eq_getElem hi]; rfl
theorem one_int (w : World) (x : Value) (t : TypeId) : ∀ (j : Nat) (u : Value), [x][j]? = some u → (w.alloc (Obj.cells #[x] t)).cell? ((⟨w.heap.size, 0, none⟩ : Addr).add j) = some u := by
  intro j u hj
  match j, hj with
  | 0, hj => simp at hj; subst hj; simp [Addr.add]
  | k + 1, hj => simp at hj

set_option maxRecDepth 10000 in
set_option maxHeartbeats 16000000 in
theorem law_ranges (v1 : Value) (l0 : List E) (v2 : Value) (vs0 : List Int) (x : Int) (w : World) (ha : ArgE w v1 l0) (hb : ArgI w v2 vs0) :
    Calls Try.prog 4 #[v1, v2, .int .i64 x] w fun e w' => e = .returned (.bool true) ∧ Below w.heap.size w w' := by
  obtain ⟨i0, hi0, hz0, hz1, hz2⟩ := info_parts infoInt
  have C := few_s v1 l0 w ha
  have hn := take12 l0
  generalize l0.take 12 = l at *
  clear ha
  obtain ⟨va, vcap, rfl, hiv, hv0, hvc, hvm⟩ := hb
  have HIV0 : Hid (rng.IV w va (vs0.take 20)) := iv_take hiv 20
  have hMl : (vs0.take 20).length = min vs0.length 20 := by rw [List.length_take, Nat.min_comm]
  generalize vs0.take 20 = vs at *
  generalize vs0.length = n0 at *
  obtain ⟨M, hM⟩ : ∃ M, min n0 20 = M := ⟨_, rfl⟩
  have hM20 : M ≤ 20 := by omega
  have hMc : M ≤ vcap := by omega
  have hMi : (if (20 : Int) < (n0 : Int) then (20 : Int) else (n0 : Int)) = (M : Int) := by split <;> omega
  have hMi2 : min (n0 : Int) 20 = (M : Int) := by omega
  rw [hM] at hMl
  have HML : Hid (vs.length = M) := hMl
  clear hiv hMl
  have D0 : Hid (∀ wz : World, rng.IV wz va vs → num.Vals wz (VI vs) va M) := fun wz h => by have := vals_iv h; rw [HML.out] at this; exact this
  have KEY : Hid (∀ (s : List E) (r1 r2 : List rng.R), (∀ y, at_ s y = last (use M l) y) → IsSet r1 (fun y => match at_ s y with | some i => VI vs i == x | none => false) → IsSet r2 (fun y => tell (among (plc vs x M)) (last (use M l) y)) → r1 = r2) := fun s r1 r2 hs h1 h2 => by
    refine h1.eq h2 (fun y _ => ?_)
    show tell (fun i => VI vs i == x) (at_ s y) = _
    rw [hs, tell_places vs x _ (fun i hi => by have := last_use hi; rw [HML.out]; omega), HML.out]
  have hMi0 : (0 : Int) ≤ (M : Int) := by omega
  have hMic : (M : Int) ≤ (vcap : Int) := by omega
  cases va with
  | none =>
    obtain rfl := hv0 rfl
    obtain rfl : M = 0 := by omega
    obtain rfl : n0 = 0 := by omega
    clear hM hMc
    go_enter Try.func4, Try.ntmps4
    go_wp2_with fail
    refine C.mono ?_
    rintro e wz ⟨ao, cap, rfl, hev, h0, rfl⟩
    have HEV : Hid (EV wz ao l) := hev
    clear C hev h0
    generalize hln : l.length = ln at *
    have HLN : Hid (l.length = ln) := hln
    clear hln
    go_wp2
    go_loopw [7, 20] (fun o i wr => ∃ (j : Nat) (P : List Int), j ≤ 0 ∧ i = .int .i64 j ∧ P.length ≤ j ∧ Hid (P = plc vs x j) ∧ wr.ownsRow wz.heap.size 3 1 o P.length (rng.cellsI P) ∧ Below wz.heap.size wz wr) (fun _ i _ => 0 - (intOf i).toNat)
    case atStart => exact ⟨0, [], Nat.zero_le _, rfl, Nat.le_refl _, rfl, World.ownsRow_nil _ _ _ _, Below.refl _ _⟩
    case round =>
      obtain ⟨j, P, hj, rfl, hPj, HPP, hown, hbel⟩ := hrel
      have hs1 := hbel.size
      by_cases hjm : j < 0
      · exact absurd hjm (Nat.not_lt_zero _)
      · obtain rfl : j = 0 := by omega
        have O1 : rng.OwnI wr wz.heap.size u7 P := hown
        obtain ⟨pa, pcap, rfl, hpv, _, _⟩ := O1.view
        have HPV : Hid (rng.IV wr pa P) := hpv
        have hPl : P.length ≤ 20 := by omega
        clear hown O1 hpv
        generalize hPn : P.length = pn at *
        have HPN : Hid (P.length = pn) := hPn
        clear hPn
        have E := num.build_any (VI vs) ao none cap 0 0 l wr (by rw [HLN.out]; omega) (HEV.out.below hbel) (D0.out _ (HIV0.out.below hbel))
        rw [HLN.out] at E
        go_wp2_with fail
        refine E.mono ?_
        rintro e w4 ⟨tb, s, rfl, ht, hr, hat, b4⟩
        have B4 := hbel.trans (b4.mono hs1)
        have KEY2 : Hid (∀ (r1 r2 : List rng.R), IsSet r1 (fun y => match at_ s y with | some i => VI vs i == x | none => false) → IsSet r2 (fun y => tell (among (plc vs x 0)) (last (use 0 l) y)) → r1 = r2) := fun r1 r2 h1 h2 => KEY.out s r1 r2 hat h1 h2
        have F := num.ranges_any _ (VI vs) tb s x w4 ht hr
        have V4 : Hid (rng.IV w4 pa P) := HPV.out.below b4
        have E4 : Hid (EV w4 ao l) := HEV.out.below B4
        clear E ht hr hat b4 HPV hbel
        go_wp2_with fail
        refine F.mono ?_
        rintro e w5 ⟨v5, r5, rfl, o5, i5, b5⟩
        have S5 : Hid (rng.Sl w5 v5 r5) := rng.Own.sl o5
        have L5 : Hid (r5.length ≤ 1000000) := by have := rng.can_len i5.1; unfold Hid; omega
        have I5 : Hid (IsSet r5 (fun y => match at_ s y with | some i => VI vs i == x | none => false)) := i5
        have B5 := B4.trans (b5.mono B4.size)
        have V5 : Hid (rng.IV w5 pa P) := V4.out.below b5
        have G := entries_any ao cap l 0 w5 (by rw [HLN.out]; omega) (E4.out.below b5)
        rw [HLN.out] at G
        clear F o5 i5 b5 V4 E4 B4
        go_wp2_with fail
        refine G.mono ?_
        rintro e w6 ⟨v6, rfl, o6, b6⟩
        have S6 : Hid (rng.Sl w6 v5 r5) := S5.out.below b6
        have B6 := B5.trans (b6.mono B5.size)
        obtain ⟨a6, c6, rfl, hv6, _, _, _⟩ := o6.view
        have hul := use_length (0 : Int) l
        have Q := rranges_any a6 pa c6 pcap (use 0 l) P w6 (by have := HLN.out; omega) (by have := HPN.out; omega) hv6 (V5.out.below b6)
        rw [HPN.out] at Q
        have HQ : Hid (P = plc vs x 0) := HPP
        clear G o6 b6 V5 S5 B5 hv6 hul HPP
        generalize (use (0 : Int) l).length = un at *
        go_wp2_with fail
        refine Q.mono ?_
        rintro e w7 ⟨v7, r7, rfl, s7, i7, b7⟩
        have eq : r5 = r7 := KEY2.out r5 r7 I5.out (by rw [← HQ.out]; exact i7)
        have S7 : Hid (rng.Sl w7 v7 r7) := s7
        have S7' : Hid (rng.Sl w7 v5 r5) := S6.out.below b7
        have B7 := B6.trans (b7.mono B6.size)
        have HEQ : Hid (r5 = r7) := eq
        clear Q s7 i7 b7 eq S6 B6 KEY2
        go_wp2_with fail
        refine (rng.equal_s v5 v7 r5 r7 _ S7'.out S7.out L5.out HEQ.out).mono ?_
        rintro e w8 ⟨rfl, b8⟩
        have B8 := B7.trans (b8.mono B7.size)
        clear b8 B7
        go_wp2_with fail
        refine (awake_any _).mono ?_
        rintro e w9 ⟨rfl, b9⟩
        go_wp2
        go_ret
        exact ⟨rfl, B8.trans (b9.mono B8.size)⟩
  | some ad =>
    clear hv0 hM hMc
    go_enter Try.func4, Try.ntmps4
    go_wp2_with fail
    refine C.mono ?_
    rintro e wz ⟨ao, cap, rfl, hev, h0, rfl⟩
    have HEV : Hid (EV wz ao l) := hev
    clear C hev h0
    generalize hln : l.length = ln at *
    have HLN : Hid (l.length = ln) := hln
    clear hln
    go_wp2
    go_loopw [7, 20] (fun o i wr => ∃ (j : Nat) (P : List Int), j ≤ M ∧ i = .int .i64 j ∧ P.length ≤ j ∧ Hid (P = plc vs x j) ∧ wr.ownsRow wz.heap.size 3 1 o P.length (rng.cellsI P) ∧ Below wz.heap.size wz wr) (fun _ i _ => M - (intOf i).toNat)
    case atStart => exact ⟨0, [], Nat.zero_le _, rfl, Nat.le_refl _, rfl, World.ownsRow_nil _ _ _ _, Below.refl _ _⟩
    case round =>
      obtain ⟨j, P, hj, rfl, hPj, HPP, hown, hbel⟩ := hrel
      have hs1 := hbel.size
      by_cases hjm : j < M
      · obtain ⟨q, hq⟩ := getX HML.out hjm
        obtain ⟨pb, po, e, hpc⟩ := (HIV0.out.below hbel).some (by have := HML.out; omega)
        cases e
        have cp := hpc j q hq
        have HN : Hid (plc vs x (j + 1) = plc vs x j ++ (if q = x then [(j : Int)] else [])) := by
          unfold Hid; rw [plc, hq]; simp
        clear hpc hq
        by_cases hqx : q = x
        · have HE : Hid (P ++ [(j : Int)] = plc vs x (j + 1)) := by unfold Hid; rw [HN.out, if_pos hqx, ← HPP.out]
          subst hqx
          have HW : Hid (∀ k, u7.ownBlock = some k → wz.heap.size ≤ k) := fun k e => (hown.lt _ e).1
          clear HN HPP
          go_wp2_with (at_builtin; refine wpList_append_own _ rfl _ _ 24 rfl wz.heap.size 3 i0 (.int .i64 0) 1 8 Try.underlying24 hi0 hz0 hz1 hz2 rfl (by decide) _ _ _ rfl (hown.alloc _) ⟨wr.heap.size, 0, none⟩ 1 1 [.int .i64 (j : Int)] rfl rfl ?c1b ?c2b ?c3b ?c4b ?c5b ?_)
          try (case c1b => exact one_int wr _ _)
          case c2b => first | (intro u hu; simp at hu; subst hu; rfl) | rfl
          case c3b => unfold maxLen; omega
          case c4b => omega
          case c5b => first | omega | (simp; omega)
          · intro v' w2 hown2 hgrow _
            have R2 := Below.grown (hbel.alloc hs1 (.cells #[.int .i64 (j : Int)] 3)) hgrow (by simp; omega) HW.out
            have R1 : w2.ownsRow wz.heap.size 3 1 v' (P ++ [(j : Int)]).length (rng.cellsI (P ++ [(j : Int)])) := by
              rw [List.length_append, show rng.cellsI (P ++ [(j : Int)]) = rng.cellsI P ++ [.int .i64 (j : Int)] by simp [rng.cellsI]]; exact hown2
            have R3 : (P ++ [(j : Int)]).length ≤ j + 1 := by rw [List.length_append]; simp; omega
            clear hown2 hgrow
            go_wp2
            go_roundw
            case rel => exact ⟨j + 1, P ++ [(j : Int)], by omega, by go_num, R3, HE, R1, R2⟩
            case measure => simp [intOf]; omega
        · have HE : Hid (P = plc vs x (j + 1)) := by unfold Hid; rw [HN.out, if_neg hqx, List.append_nil, ← HPP.out]
          have e1 : (q == x) = false := by simpa using hqx
          clear HN HPP hqx
          go_wp2
          go_roundw
          case rel => exact ⟨j + 1, P, by omega, by go_num, by omega, HE, hown, hbel⟩
          case measure => simp [intOf]; omega
      · obtain rfl : j = M := by omega
        have O1 : rng.OwnI wr wz.heap.size u7 P := hown
        obtain ⟨pa, pcap, rfl, hpv, _, _⟩ := O1.view
        have HPV : Hid (rng.IV wr pa P) := hpv
        have hPl : P.length ≤ 20 := by omega
        clear hown O1 hpv
        generalize hPn : P.length = pn at *
        have HPN : Hid (P.length = pn) := hPn
        clear hPn
        have E := num.build_any (VI vs) ao (some ad) cap j vcap l wr (by rw [HLN.out]; omega) (HEV.out.below hbel) (D0.out _ (HIV0.out.below hbel))
        rw [HLN.out] at E
        go_wp2_with fail
        refine E.mono ?_
        rintro e w4 ⟨tb, s, rfl, ht, hr, hat, b4⟩
        have B4 := hbel.trans (b4.mono hs1)
        have KEY2 : Hid (∀ (r1 r2 : List rng.R), IsSet r1 (fun y => match at_ s y with | some i => VI vs i == x | none => false) → IsSet r2 (fun y => tell (among (plc vs x j)) (last (use j l) y)) → r1 = r2) := fun r1 r2 h1 h2 => KEY.out s r1 r2 hat h1 h2
        have F := num.ranges_any _ (VI vs) tb s x w4 ht hr
        have V4 : Hid (rng.IV w4 pa P) := HPV.out.below b4
        have E4 : Hid (EV w4 ao l) := HEV.out.below B4
        clear E ht hr hat b4 HPV hbel
        go_wp2_with fail
        refine F.mono ?_
        rintro e w5 ⟨v5, r5, rfl, o5, i5, b5⟩
        have S5 : Hid (rng.Sl w5 v5 r5) := rng.Own.sl o5
        have L5 : Hid (r5.length ≤ 1000000) := by have := rng.can_len i5.1; unfold Hid; omega
        have I5 : Hid (IsSet r5 (fun y => match at_ s y with | some i => VI vs i == x | none => false)) := i5
        have B5 := B4.trans (b5.mono B4.size)
        have V5 : Hid (rng.IV w5 pa P) := V4.out.below b5
        have G := entries_any ao cap l j w5 (by rw [HLN.out]; omega) (E4.out.below b5)
        rw [HLN.out] at G
        clear F o5 i5 b5 V4 E4 B4
        go_wp2_with fail
        refine G.mono ?_
        rintro e w6 ⟨v6, rfl, o6, b6⟩
        have S6 : Hid (rng.Sl w6 v5 r5) := S5.out.below b6
        have B6 := B5.trans (b6.mono B5.size)
        obtain ⟨a6, c6, rfl, hv6, _, _, _⟩ := o6.view
        have hul := use_length (j : Int) l
        have Q := rranges_any a6 pa c6 pcap (use j l) P w6 (by have := HLN.out; omega) (by have := HPN.out; omega) hv6 (V5.out.below b6)
        rw [HPN.out] at Q
        have HQ : Hid (P = plc vs x j) := HPP
        clear G o6 b6 V5 S5 B5 hv6 hul HPP
        generalize (use (j : Int) l).length = un at *
        go_wp2_with fail
        refine Q.mono ?_
        rintro e w7 ⟨v7, r7, rfl, s7, i7, b7⟩
        have eq : r5 = r7 := KEY2.out r5 r7 I5.out (by rw [← HQ.out]; exact i7)
        have S7 : Hid (rng.Sl w7 v7 r7) := s7
        have S7' : Hid (rng.Sl w7 v5 r5) := S6.out.below b7
        have B7 := B6.trans (b7.mono B6.size)
        have HEQ : Hid (r5 = r7) := eq
        clear Q s7 i7 b7 eq S6 B6 KEY2
        go_wp2_with fail
        refine (rng.equal_s v5 v7 r5 r7 _ S7'.out S7.out L5.out HEQ.out).mono ?_
        rintro e w8 ⟨rfl, b8⟩
        have B8 := B7.trans (b8.mono B7.size)
        clear b8 B7
        go_wp2_with fail
        refine (awake_any _).mono ?_
        rintro e w9 ⟨rfl, b9⟩
        go_wp2
        go_ret
        exact ⟨rfl, B8.trans (b9.mono B8.size)⟩
end Go.Proofs.Ytmglljceklmngaa.tri
