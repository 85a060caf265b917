/- The walk of TrieParts. -/
import Derived.Test.YtmglljceklmngaaTriCalls
import Derived.Test.YtmglljceklmngaaTriBuildI
import Derived.Test.YtmglljceklmngaaTriSameI
import Derived.Test.YtmglljceklmngaaRngCalls
set_option linter.unusedVariables false
set_option linter.unusedSimpArgs false
namespace Go.Proofs.Ytmglljceklmngaa.tri
open Go.RowKit
open Go.Proofs.Ytmglljceklmngaa.rng (ret_int ret_bool below_drewN info_parts own_below' IsSet code has)

def VP (i : Int) : Int := if i = 0 then 7 else if i = 1 then 8 else 9
/-- What f says of a value that is there. -/
def tell (f : Int → Bool) (o : Option Int) : Bool := match o with | some i => f i | none => false
theorem has_told {nv : Int} {s : List E} {r' : List rng.R} {f : Int → Bool} (hr : Ris nv 0 s) (h : IsSet r' (fun x => tell f (at_ s x))) (x : Int) : has r' x = tell f (at_ s x) := by
  rw [h.hasEq x]
  cases hc : code x
  · cases ha : at_ s x with
    | none => rfl
    | some i =>
      have := at_code hr (Int.le_refl 0) ha
      rw [(rng.code_iff x).2 (by omega)] at hc; cases hc
  · rw [Bool.true_and]

set_option maxRecDepth 10000 in
set_option maxHeartbeats 8000000 in
theorem law_parts (v : Value) (l0 : List E) (r : Int) (w : World) (ha : ArgE w v l0) :
    Calls Try.prog 5 #[v, .int .i64 r] w fun e w' => e = .returned (.bool true) ∧ Below w.heap.size w w' := by
  have C := few_s v l0 w ha
  have hn := take12 l0
  generalize l0.take 12 = l at *
  clear ha
  go_enter Try.func5, Try.ntmps5
  go_wp2_with fail
  refine C.mono ?_
  rintro e wz ⟨ao, cap, rfl, hev, h0, rfl⟩
  clear C
  have B1 := (Below.refl wz.heap.size wz).alloc (Nat.le_refl _) (.cells #[.int .i64 7, .int .i64 8, .int .i64 9] 3)
  have hvs : num.Vals (wz.alloc (.cells #[.int .i64 7, .int .i64 8, .int .i64 9] 3)) VP (some ⟨wz.heap.size, 0, none⟩) 3 := by
    refine .inr ⟨_, _, rfl, fun i hi => ?_⟩
    match i, hi with
    | 0, _ => simp [VP]
    | 1, _ => simp [VP]
    | 2, _ => simp [VP]
  have D := num.build_any VP ao (some ⟨wz.heap.size, 0, none⟩) cap 3 3 l _ (by omega) (hev.below B1) hvs
  have f0 : (wz.alloc (.cells #[.int .i64 7, .int .i64 8, .int .i64 9] 3)).cell? ⟨wz.heap.size, 0, none⟩ = some (.int .i64 7) := by simp
  have f1 : (wz.alloc (.cells #[.int .i64 7, .int .i64 8, .int .i64 9] 3)).cell? ⟨wz.heap.size, 1, none⟩ = some (.int .i64 8) := by simp
  have f2 : (wz.alloc (.cells #[.int .i64 7, .int .i64 8, .int .i64 9] 3)).cell? ⟨wz.heap.size, 2, none⟩ = some (.int .i64 9) := by simp
  have bl : wz.heap.size < (wz.alloc (.cells #[.int .i64 7, .int .i64 8, .int .i64 9] 3)).heap.size := by simp
  clear hev h0 hvs hn
  generalize l.length = ln at *
  go_wp2_with fail
  generalize hw1 : wz.alloc (.cells #[.int .i64 7, .int .i64 8, .int .i64 9] 3) = w1 at *
  clear hw1
  refine D.mono ?_
  rintro e w2 ⟨tb, s, rfl, ht, hr, hat, b2⟩
  clear D hat
  have HT : Hid (num.TrieIs w2 VP tb s) := ht
  have HR : Hid (Ris 3 0 s) := hr
  have F := num.get_any _ VP tb s r w2 ht hr
  have HG : Hid (∀ (x : Int) (r' : List rng.R), IsSet r' (fun y => tell (fun i => VP i == x) (at_ s y)) → has r' r = tell (fun i => VP i == x) (at_ s r)) := fun x r' h => has_told hr h r
  obtain ⟨o, hoe⟩ : ∃ o, at_ s r = o := ⟨_, rfl⟩
  rw [hoe] at F HG
  obtain ⟨q, t, hq, ht', HQ⟩ : ∃ q t, num.told VP o = .int .i64 q ∧ o.isSome = t ∧ Hid (∀ x, tell (fun i => VP i == x) o = (t && (x == q))) := by
    cases o with
    | none => exact ⟨0, false, rfl, rfl, fun x => rfl⟩
    | some i => exact ⟨VP i, true, rfl, rfl, fun x => by simp only [tell, Bool.true_and]; rw [Bool.eq_iff_iff]; simp; exact ⟨Eq.symm, Eq.symm⟩⟩
  rw [hq, ht'] at F
  clear ht hr hoe hq ht'
  go_wp2_with fail
  refine F.mono ?_
  rintro e w3 ⟨rfl, b3⟩
  have b13 := b2.trans (b3.mono b2.size)
  have g0 := (b13.cell (p := ⟨wz.heap.size, 0, none⟩) bl).trans f0
  have g1 := (b13.cell (p := ⟨wz.heap.size, 1, none⟩) bl).trans f1
  have g2 := (b13.cell (p := ⟨wz.heap.size, 2, none⟩) bl).trans f2
  have B3 := B1.trans (b13.mono B1.size)
  have HT3 : Hid (num.TrieIs w3 VP tb s) := HT.out.below b3
  have bl3 : wz.heap.size < w3.heap.size := by have := b13.size; omega
  clear F b2 b3 b13 HT f0 f1 f2 B1 bl
  go_wp2
  go_loopw [26] (fun i wr => ∃ k : Nat, k ≤ 3 ∧ i = .int .i64 k ∧ Below w3.heap.size w3 wr) (fun i _ => 3 - (intOf i).toNat)
  case atStart => exact ⟨0, by omega, rfl, Below.refl _ _⟩
  case round =>
    obtain ⟨k, hk, rfl, hbel⟩ := hrel
    by_cases hlt : k < 3
    · obtain ⟨x, gx⟩ : ∃ x : Int, wr.cell? ⟨wz.heap.size, k, none⟩ = some (.int .i64 x) := by
        rcases (show k = 0 ∨ k = 1 ∨ k = 2 by omega) with rfl | rfl | rfl
        · exact ⟨7, (hbel.cell (p := ⟨wz.heap.size, 0, none⟩) bl3).trans g0⟩
        · exact ⟨8, (hbel.cell (p := ⟨wz.heap.size, 1, none⟩) bl3).trans g1⟩
        · exact ⟨9, (hbel.cell (p := ⟨wz.heap.size, 2, none⟩) bl3).trans g2⟩
      have hltI : (k : Int) < 3 := by omega
      have C := num.ranges_any 3 VP tb s x wr (HT3.out.below hbel) HR.out
      go_wp2_with fail
      refine C.mono ?_
      rintro e w4 ⟨v4, r4, rfl, o4, i4, b4⟩
      have S4 : Hid (rng.Sl w4 v4 r4) := rng.Own.sl o4
      have L4 : Hid (r4.length ≤ 1000000) := by have := rng.can_len i4.1; unfold Hid; omega
      have E4 : Hid (has r4 r = (t && (x == q))) := (HG.out x r4 i4).trans (HQ.out x)
      have K4 : Hid (rng.canB 0 r4 = true) := (rng.canB_iff 0 r4).2 i4.1
      have R4 := hbel.trans (b4.mono hbel.size)
      clear C o4 i4 b4 hbel
      go_wp2_with fail
      refine (rng.rcan_s v4 r4 _ S4.out L4.out).mono ?_
      rintro e w5 ⟨rfl, b5⟩
      rw [K4.out]
      have S5 : Hid (rng.Sl w5 v4 r4) := S4.out.below b5
      have R5 := R4.trans (b5.mono R4.size)
      clear b5 R4
      go_wp2_with fail
      refine (rng.has_s v4 r4 r _ S5.out L4.out).mono ?_
      rintro e w6 ⟨rfl, b6⟩
      rw [E4.out]
      have R6 := R5.trans (b6.mono R5.size)
      clear b6 R5 E4 K4
      obtain ⟨d, hd⟩ : ∃ d, (x == q) = d := ⟨_, rfl⟩
      rw [hd]
      cases t with
      | false =>
        clear hd
        go_wp2
        go_roundw
        case rel => exact ⟨k + 1, by omega, by go_num, R6⟩
        case measure => simp [intOf]; omega
      | true =>
        cases d with
        | false =>
          go_wp2
          go_roundw
          case rel => exact ⟨k + 1, by omega, by go_num, R6⟩
          case measure => simp [intOf]; omega
        | true =>
          go_wp2
          go_roundw
          case rel => exact ⟨k + 1, by omega, by go_num, R6⟩
          case measure => simp [intOf]; omega
    · go_wp2_with fail
      refine (awake_any _).mono ?_
      rintro e w4 ⟨rfl, b4⟩
      go_wp2
      go_ret
      have R := hbel.trans (b4.mono hbel.size)
      exact ⟨rfl, B3.trans (R.mono B3.size)⟩
end Go.Proofs.Ytmglljceklmngaa.tri
