/- few; slices.Clone and slices.Equal of entries; awake. -/
import Derived.Test.YtmglljceklmngaaTriBuildS
import Derived.Test.YtmglljceklmngaaTriGetS
import Derived.Lib.SliceRun
set_option linter.unusedVariables false
set_option linter.unusedSimpArgs false
namespace Go.Proofs.Ytmglljceklmngaa.tri
open Go.RowKit
open Go.Proofs.Ytmglljceklmngaa.rng (ret_int ret_bool below_drewN info_parts own_below')

/-- A list of entries that came in. -/
def ArgE (w : World) (v : Value) (l : List E) : Prop := ∃ ao cap, v = .slice ao l.length cap ∧ EV w ao l ∧ (ao = none → cap = 0) ∧ l.length ≤ cap ∧ cap ≤ 9223372036854775807
/-- v is a slice that reads as the entries l. -/
def Sl (w : World) (v : Value) (l : List E) : Prop := ∃ ao cap, v = .slice ao l.length cap ∧ EV w ao l ∧ (ao = none → cap = 0)
theorem Sl.below {w w' : World} {v : Value} {l : List E} (h : Sl w v l) (hb : Below w.heap.size w w') : Sl w' v l := by
  obtain ⟨ao, cap, e, hv, h0⟩ := h
  exact ⟨ao, cap, e, hv.below hb, h0⟩
theorem Own.sl {w : World} {B : Nat} {v : Value} {l : List E} (h : Own w B v l) : Sl w v l := by
  obtain ⟨ao, cap, e, hv, _, _, h0⟩ := h.view
  exact ⟨ao, cap, e, hv, h0⟩

theorem few_any (ao : Option Addr) (n cap : Nat) (w : World) (hc : n ≤ cap) (hm : cap ≤ 9223372036854775807) (h0 : ao = none → cap = 0) :
    Calls Try.prog 8 #[.slice ao n cap] w fun e w' => e = .returned (.slice ao (min n 12) cap) ∧ w' = w := by
  cases ao with
  | none =>
    obtain rfl := h0 rfl
    obtain rfl : n = 0 := by omega
    go_enter Try.func8, Try.ntmps8
    go_wp2
    go_ret
    exact ⟨rfl, rfl⟩
  | some ad =>
    clear h0
    by_cases h : n ≤ 12
    · have e : min n 12 = n := by omega
      rw [e]
      go_enter Try.func8, Try.ntmps8
      go_wp2
      go_ret
      exact ⟨rfl, rfl⟩
    · have e : min n 12 = 12 := by omega
      rw [e]
      go_enter Try.func8, Try.ntmps8
      go_wp2
      go_ret
      exact ⟨rfl, rfl⟩
theorem few_s (v : Value) (l : List E) (w : World) (hs : ArgE w v l) :
    Calls Try.prog 8 #[v] w fun e w' => ∃ ao cap, e = .returned (.slice ao (l.take 12).length cap) ∧ EV w ao (l.take 12) ∧ (ao = none → cap = 0) ∧ w' = w := by
  obtain ⟨ao, cap, rfl, hv, h0, h1, h2⟩ := hs
  refine (few_any ao l.length cap w h1 h2 h0).mono ?_
  rintro e w' ⟨rfl, rfl⟩
  refine ⟨ao, cap, ?_, hv.take 12, h0, rfl⟩
  rw [List.length_take, Nat.min_comm]
theorem take12 (l : List E) : (l.take 12).length ≤ 12 := by rw [List.length_take]; omega

set_option maxRecDepth 10000 in
set_option maxHeartbeats 1000000 in
theorem clone_e (ao : Option Addr) (cap : Nat) (l : List E) (w : World) (hv : EV w ao l) (h0 : ao = none → cap = 0) (hn : l.length ≤ 2000000) :
    Calls Try.prog 9 #[.slice ao l.length cap] w fun e w' => ∃ v', e = .returned v' ∧ Own w' w.heap.size v' l ∧ Below w.heap.size w w' := by
  obtain ⟨i0, hi, hz0, hz1, hz2⟩ := info_parts infoEntry
  cases ao with
  | none =>
    obtain rfl := ev_nil hv
    obtain rfl := h0 rfl
    clear hv h0
    go_enter Try.func9, Try.ntmps9
    go_wp2_with fail
    rw [Lib.run_eql_slice_nil _ _ _ _ _ _ _ _ Try.underlying22]
    go_wp2
    go_ret
    exact ⟨_, rfl, World.ownsRow_nil _ _ _ _, Below.refl _ _⟩
  | some x =>
    have HV : Hid (∀ (j : Nat) u, (flat l)[j]? = some u → w.cell? (x.add j) = some u) := ev_news hv
    obtain ⟨n, hl⟩ : ∃ n, l.length = n := ⟨_, rfl⟩
    have HL : Hid (l.length = n) := hl
    rw [hl] at hn ⊢
    clear hv h0 hl
    go_enter Try.func9, Try.ntmps9
    go_wp2_with fail
    rw [Lib.run_eql_slice_nil _ _ _ _ _ _ _ _ Try.underlying22]
    go_wp2_with (at_builtin; refine wpList_append_own _ rfl _ _ 22 rfl w.heap.size 27 i0 (.agg #[.int .i64 0, .int .i64 0, .int .i64 0]) 3 24 Try.underlying22 hi hz0 hz1 hz2 rfl (by decide) _ _ _ rfl (World.ownsRow_made w #[] 0 (Nat.le_refl _) (by decide) rfl) x n cap (flat l) rfl (by rw [flat_length, HL.out]) (fun j u hj => (World.grownBy_alloc w _ none).cell (HV.out j u hj) (by simp)) (flat_one l) (by unfold maxLen; omega) (by omega) (by simp) ?_)
    intro v' w3 hown hgrow _
    have bb : Below w.heap.size w w3 := ((Below.refl w.heap.size w).alloc (Nat.le_refl _) _).grown hgrow (by simp) (fun k e => by cases e; exact Nat.le_refl _)
    have HO : Hid (Own w3 w.heap.size v' l) := by
      unfold Hid Own; rw [HL.out]; simpa using hown
    clear hgrow hown HV
    go_wp2
    go_ret
    exact ⟨_, rfl, HO.out, bb⟩
set_option maxHeartbeats 1000000 in
theorem equal_e (a1 a2 : Option Addr) (c1 c2 : Nat) (l : List E) (w : World) (hn : l.length ≤ 1000000000) (h1 : EV w a1 l) (h2 : EV w a2 l) :
    Calls Try.prog 15 #[.slice a1 l.length c1, .slice a2 l.length c2] w fun e w' => e = .returned (.bool true) ∧ Below w.heap.size w w' := by
  have H1 : Hid (EV w a1 l) := h1
  have H2 : Hid (EV w a2 l) := h2
  obtain ⟨n, hl⟩ : ∃ n, l.length = n := ⟨_, rfl⟩
  rw [hl] at hn ⊢
  have HL : Hid (l.length = n) := hl
  clear h1 h2 hl
  have hnn : ((n : Int) != (n : Int)) = false := by simp
  go_enter Try.func15, Try.ntmps15
  go_wp2
  go_loopw [13] (fun i wr => ∃ k : Nat, k ≤ n ∧ i = .int .i64 k ∧ ∃ q, wr = w.drewN q) (fun i _ => n - (intOf i).toNat)
  case atStart => exact ⟨0, Nat.zero_le _, rfl, 0, rfl⟩
  case round =>
    obtain ⟨k, hk, rfl, q, rfl⟩ := hrel
    by_cases hlt : k < n
    · have hlt' : (k : Int) < (n : Int) := by omega
      obtain ⟨x, y, z, hp⟩ := get3 HL.out hlt
      obtain ⟨b1, o1, rfl, k1⟩ := H1.out.some (by have := HL.out; omega)
      obtain ⟨b2, o2, rfl, k2⟩ := H2.out.some (by have := HL.out; omega)
      obtain ⟨p1, p2, p3⟩ := k1 k (x, y, z) hp
      obtain ⟨q1, q2, q3⟩ := k2 k (x, y, z) hp
      simp only at p1 p2 p3 q1 q2 q3
      clear k1 k2 hp
      go_wp2
      go_quiet (fail)
      go_wp2
      go_roundw
      case rel => exact ⟨k + 1, by omega, by go_num, _, rfl⟩
      case measure => simp [intOf]; omega
    · go_wp2
      go_ret
      exact ⟨rfl, below_drewN (Below.refl _ _) _⟩

/-- The two values of awake. -/
def VA (i : Int) : ByteArray := if i = 0 then ⟨#[97]⟩ else ⟨#[98]⟩
set_option maxHeartbeats 2000000 in
theorem awake_any (w : World) : Calls Try.prog 16 #[] w fun e w' => e = .returned (.bool true) ∧ Below w.heap.size w w' := by
  have B0 := ((Below.refl w.heap.size w).alloc (Nat.le_refl _) (.cells #[.int .i64 3, .int .i64 9, .int .i64 1] 27)).alloc (by simp) (.cells #[.string ⟨#[97]⟩, .string ⟨#[98]⟩] 9)
  have hev : EV ((w.alloc (.cells #[.int .i64 3, .int .i64 9, .int .i64 1] 27)).alloc (.cells #[.string ⟨#[97]⟩, .string ⟨#[98]⟩] 9)) (some ⟨w.heap.size, 0, none⟩) [(3, 9, 1)] := by
    refine .inr ⟨_, _, rfl, fun i p hi => ?_⟩
    match i, hi with
    | 0, hi => simp at hi; subst hi; exact ⟨past1 (by simp) _, past1 (by simp) _, past1 (by simp) _⟩
    | k + 1, hi => simp at hi
  have hvs : str.Vals ((w.alloc (.cells #[.int .i64 3, .int .i64 9, .int .i64 1] 27)).alloc (.cells #[.string ⟨#[97]⟩, .string ⟨#[98]⟩] 9)) VA (some ⟨w.heap.size + 1, 0, none⟩) 2 := by
    refine .inr ⟨_, _, rfl, fun i hi => ?_⟩
    match i, hi with
    | 0, _ => simp [VA]
    | 1, _ => simp [VA]
  have C := str.build_any VA (some ⟨w.heap.size, 0, none⟩) (some ⟨w.heap.size + 1, 0, none⟩) 1 2 2 [(3, 9, 1)] _ (by decide) hev hvs
  have e1 : ([(3, 9, 1)] : List E).length = 1 := rfl
  rw [e1] at C
  clear hev hvs e1
  go_enter Try.func16, Try.ntmps16
  go_wp2_with fail
  refine C.mono ?_
  rintro e w1 ⟨tb, s, rfl, ht, hr, hat, hb⟩
  have hb1 := B0.trans (hb.mono (by simp; omega))
  have D := str.get_any _ VA tb s 5 w1 ht hr
  have ha : at_ s 5 = some 1 := by rw [hat]; decide
  rw [ha] at D
  clear C ht hr hat hb B0 ha
  go_wp2_with fail
  refine D.mono ?_
  rintro e w2 ⟨rfl, hb2⟩
  have et : str.told VA (some 1) = .string ⟨#[98]⟩ := rfl
  rw [et]
  clear D
  go_wp2
  go_ret
  exact ⟨rfl, hb1.trans (hb2.mono hb1.size)⟩
end Go.Proofs.Ytmglljceklmngaa.tri
