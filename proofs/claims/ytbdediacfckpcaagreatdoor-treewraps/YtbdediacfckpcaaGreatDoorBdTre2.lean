/- Texts that the proof leans on, one behind the other. -/
import Derived.Test.YtbdediacfckpcaaGreatDoorBdTre1

section
/- Depth of package tree. -/
set_option linter.unusedVariables false
set_option linter.unusedSimpArgs false
namespace Go.Proofs.YtbdediacfckpcaaGreatDoor.tre
open Go.RowKit nod
open Go.Proofs.YtbdediacfckpcaaGreatDoor.rng (R RV ret_int ret_bool below_drewN info_parts own_below')

set_option maxRecDepth 10000 in
set_option maxHeartbeats 8000000 in
theorem depth_step (k : Int) (m a b : Int) (g : Bool) (n : ByteArray) (ks : List Nd) (sa : Option Addr) (sl sc : Nat) (ao : Option Addr) (nk cap : Nat) (w : World) (HL : Hid (ks.length = nk)) (hk3 : nk ≤ 1000000000) (hs : szL ks ≤ 100000000) (hcap : nk ≤ cap) (HK : Hid (KV w.heap.size w ao ks)) (HI : Hid (∀ (t : Nd) (v : Value) (W : World), t ∈ ks → NV W.heap.size W t v → Calls Tryz.prog 16 #[v] W fun e w' => e = .returned (.int .i64 (depN t)) ∧ Below W.heap.size W w')) (q : Bool) (hq : sided k m = q) (br : Bool) (hbr : brack k = br) :
    Calls Tryz.prog 16 #[.agg #[.int .i64 k, .int .i64 m, .int .i64 a, .int .i64 b, .bool g, .string n, .slice sa sl sc, .slice ao nk cap]] w fun e w' => e = .returned (.int .i64 (depL q ks + (if br then 1 else 0))) ∧ Below w.heap.size w w' := by
  have HB : Hid (Below w.heap.size w (w.alloc (.cells #[.int .i64 k, .int .i64 m, .int .i64 a, .int .i64 b, .bool g, .string n, .slice sa sl sc, .slice ao nk cap] 25))) := (Below.refl _ w).alloc (Nat.le_refl _) _
  have HX : Hid (Bk (w.alloc (.cells #[.int .i64 k, .int .i64 m, .int .i64 a, .int .i64 b, .bool g, .string n, .slice sa sl sc, .slice ao nk cap] 25)) w.heap.size #[.int .i64 k, .int .i64 m, .int .i64 a, .int .i64 b, .bool g, .string n, .slice sa sl sc, .slice ao nk cap] 25) := Bk.new w _ _
  have CS : Hid (∀ W, Calls Tryz.prog 21 #[.agg #[.int .i64 k, .int .i64 m, .int .i64 a, .int .i64 b, .bool g, .string n, .slice sa sl sc, .slice ao nk cap]] W fun e w' => e = .returned (.bool q) ∧ Below W.heap.size W w') := fun W => hq ▸ sides_any k m a b g n (.slice sa sl sc) (.slice ao nk cap) W
  have HBR : Hid (brack k = br) := hbr
  clear hq hbr
  go_enter Tryz.func16, Tryz.ntmps16
  go_wp2
  go_loopw [3, 10] (fun c i wr => ∃ (j : Nat) (x : Int), j ≤ nk ∧ i = .int .i64 j ∧ c = .int .i64 x ∧ Hid (x = depL q (ks.take j)) ∧ 0 ≤ x ∧ x ≤ 100000001 ∧ Hid (Below w.heap.size w wr) ∧ Hid (Bk wr w.heap.size #[.int .i64 k, .int .i64 m, .int .i64 a, .int .i64 b, .bool g, .string n, .slice sa sl sc, .slice ao nk cap] 25)) (fun _ i _ => nk - (intOf i).toNat)
  case atStart => exact ⟨0, 0, Nat.zero_le _, rfl, rfl, by unfold Hid; simp [depL], by omega, by omega, HB, HX⟩
  case round =>
    obtain ⟨j, x, hj, rfl, rfl, HE, x1, x2, HW, HXr⟩ := hrel
    clear HB HX
    have hwl := HXr.out.lt
    by_cases hlt : j < nk
    · obtain ⟨t, ht⟩ := getX HL.out hlt
      obtain ⟨bb, off, rfl, hka⟩ := (HK.out.below HW.out).some (by have := HL.out; omega)
      obtain ⟨k', m', a', b', g', n', s', kk, sa', sc', ao', cap', rfl, ⟨e0, e1, e2, e3, e4, e5, e6, e7⟩, hv'⟩ := hka.kid ht
      have hmem := List.mem_of_getElem? ht
      generalize s'.length = sl' at *
      generalize kk.length = nk' at *
      have W1 : Below w.heap.size wr (wr.alloc (.cells #[.int .i64 k', .int .i64 m', .int .i64 a', .int .i64 b', .bool g', .string n', .slice sa' sl' sc', .slice ao' nk' cap'] 25)) := (Below.refl _ wr).alloc HW.out.size _
      have C := HI.out _ _ (wr.alloc (.cells #[.int .i64 k', .int .i64 m', .int .i64 a', .int .i64 b', .bool g', .string n', .slice sa' sl' sc', .slice ao' nk' cap'] 25)) hmem ((hv'.keep W1).wide (by have := HW.out.size; simp; omega))
      have HC : Hid (Below w.heap.size w (wr.alloc (.cells #[.int .i64 k', .int .i64 m', .int .i64 a', .int .i64 b', .bool g', .string n', .slice sa' sl' sc', .slice ao' nk' cap'] 25))) := HW.out.trans W1
      have HY : Hid (Bk (wr.alloc (.cells #[.int .i64 k', .int .i64 m', .int .i64 a', .int .i64 b', .bool g', .string n', .slice sa' sl' sc', .slice ao' nk' cap'] 25)) wr.heap.size #[.int .i64 k', .int .i64 m', .int .i64 a', .int .i64 b', .bool g', .string n', .slice sa' sl' sc', .slice ao' nk' cap'] 25) := Bk.new wr _ _
      have HX1 : Hid (Bk (wr.alloc (.cells #[.int .i64 k', .int .i64 m', .int .i64 a', .int .i64 b', .bool g', .string n', .slice sa' sl' sc', .slice ao' nk' cap'] 25)) w.heap.size #[.int .i64 k, .int .i64 m, .int .i64 a, .int .i64 b, .bool g, .string n, .slice sa sl sc, .slice (some ⟨bb, off, none⟩) nk cap] 25) := HXr.out.past _
      have hdb := dep_bounds _ (.mk k' m' a' b' g' n' s' kk) (Nat.le_refl _)
      obtain ⟨r, hr⟩ : ∃ r, depN (.mk k' m' a' b' g' n' s' kk) = r := ⟨_, rfl⟩
      have HN : Hid (depL q (ks.take (j + 1)) = max x (r - (if k' == 3 && q then 1 else 0))) := by unfold Hid; rw [takeX ht, depL_snoc, hr, HE.out]; rfl
      have hb2 : 0 ≤ depL q (ks.take (j + 1)) ∧ depL q (ks.take (j + 1)) ≤ 100000001 := by
        have := depL_bound q (ks.take (j + 1)); have := depL_nonneg q (ks.take (j + 1)); have := szL_take ks (j + 1); omega
      have hrb : r ≤ 100000000 := by have := szL_mem hmem; omega
      have hr0 : 0 ≤ r := by omega
      rw [hr] at C
      have HBM : Hid (0 ≤ depL q (ks.take (j + 1)) ∧ depL q (ks.take (j + 1)) ≤ 100000001) := hb2
      clear HE HK HW hka hv' hmem W1 HI hr ht hdb hb2 HXr
      by_cases ck : k' = 3
      · subst ck
        cases q with
        | true =>
          obtain ⟨Z, hZ⟩ : ∃ Z, max x (r - 1) = Z := ⟨_, rfl⟩
          have hZ' : (if x < r - 1 then r - 1 else x) = Z := by rw [← hZ]; split <;> omega
          have HM : Hid (Z = depL true (ks.take (j + 1))) := by unfold Hid; rw [HN.out, ← hZ]; simp
          have hz1 : 0 ≤ Z := by rw [HM.out]; exact HBM.out.1
          have hz2 : Z ≤ 100000001 := by rw [HM.out]; exact HBM.out.2
          clear HN HBM
          go_wp2_with (first | (go_at_call 16; refine C.mono ?_; rintro e w2 ⟨rfl, d⟩; have HG : Hid (Below w.heap.size w w2) := HC.out.trans (below_less d (by have := HC.out.size; omega)); have y0 := (HY.out.on d).cell 0 (u := .int .i64 3) rfl; have X2 := HX1.out.on d; have x0' := X2.cell 0 (u := .int .i64 k) rfl; have x1' := X2.cell 1 (u := .int .i64 m) rfl; have x2' := X2.cell 2 (u := .int .i64 a) rfl; have x3' := X2.cell 3 (u := .int .i64 b) rfl; have x4' := X2.cell 4 (u := .bool g) rfl; have x5' := X2.cell 5 (u := .string n) rfl; have x6' := X2.cell 6 (u := .slice sa sl sc) rfl; have x7' := X2.cell 7 (u := .slice (some ⟨bb, off, none⟩) nk cap) rfl; have HX2 : Hid (Bk w2 w.heap.size #[.int .i64 k, .int .i64 m, .int .i64 a, .int .i64 b, .bool g, .string n, .slice sa sl sc, .slice (some ⟨bb, off, none⟩) nk cap] 25) := X2; clear d X2) | (go_at_call 21; refine (CS.out _).mono ?_; rintro e w3 ⟨rfl, d⟩; have HG3 : Hid (Below w.heap.size w w3) := HG.out.trans (below_less d (by have := HG.out.size; omega)); have HX3 : Hid (Bk w3 w.heap.size #[.int .i64 k, .int .i64 m, .int .i64 a, .int .i64 b, .bool g, .string n, .slice sa sl sc, .slice (some ⟨bb, off, none⟩) nk cap] 25) := HX2.out.on d; clear d))
          go_roundw
          case rel => exact ⟨j + 1, Z, by omega, by go_num, rfl, HM, hz1, hz2, HG3, HX3⟩
          case measure => simp [intOf]; omega
        | false =>
          obtain ⟨Z, hZ⟩ : ∃ Z, max x (r) = Z := ⟨_, rfl⟩
          have hZ' : (if x < r then r else x) = Z := by rw [← hZ]; split <;> omega
          have HM : Hid (Z = depL false (ks.take (j + 1))) := by unfold Hid; rw [HN.out, ← hZ]; simp
          have hz1 : 0 ≤ Z := by rw [HM.out]; exact HBM.out.1
          have hz2 : Z ≤ 100000001 := by rw [HM.out]; exact HBM.out.2
          clear HN HBM
          go_wp2_with (first | (go_at_call 16; refine C.mono ?_; rintro e w2 ⟨rfl, d⟩; have HG : Hid (Below w.heap.size w w2) := HC.out.trans (below_less d (by have := HC.out.size; omega)); have y0 := (HY.out.on d).cell 0 (u := .int .i64 3) rfl; have X2 := HX1.out.on d; have x0' := X2.cell 0 (u := .int .i64 k) rfl; have x1' := X2.cell 1 (u := .int .i64 m) rfl; have x2' := X2.cell 2 (u := .int .i64 a) rfl; have x3' := X2.cell 3 (u := .int .i64 b) rfl; have x4' := X2.cell 4 (u := .bool g) rfl; have x5' := X2.cell 5 (u := .string n) rfl; have x6' := X2.cell 6 (u := .slice sa sl sc) rfl; have x7' := X2.cell 7 (u := .slice (some ⟨bb, off, none⟩) nk cap) rfl; have HX2 : Hid (Bk w2 w.heap.size #[.int .i64 k, .int .i64 m, .int .i64 a, .int .i64 b, .bool g, .string n, .slice sa sl sc, .slice (some ⟨bb, off, none⟩) nk cap] 25) := X2; clear d X2) | (go_at_call 21; refine (CS.out _).mono ?_; rintro e w3 ⟨rfl, d⟩; have HG3 : Hid (Below w.heap.size w w3) := HG.out.trans (below_less d (by have := HG.out.size; omega)); have HX3 : Hid (Bk w3 w.heap.size #[.int .i64 k, .int .i64 m, .int .i64 a, .int .i64 b, .bool g, .string n, .slice sa sl sc, .slice (some ⟨bb, off, none⟩) nk cap] 25) := HX2.out.on d; clear d))
          go_roundw
          case rel => exact ⟨j + 1, Z, by omega, by go_num, rfl, HM, hz1, hz2, HG3, HX3⟩
          case measure => simp [intOf]; omega
      · have fk : (k' == 3) = false := by simpa using ck
        obtain ⟨Z, hZ⟩ : ∃ Z, max x (r) = Z := ⟨_, rfl⟩
        have hZ' : (if x < r then r else x) = Z := by rw [← hZ]; split <;> omega
        have HM : Hid (Z = depL q (ks.take (j + 1))) := by unfold Hid; rw [HN.out, ← hZ]; rw [fk]; simp
        have hz1 : 0 ≤ Z := by rw [HM.out]; exact HBM.out.1
        have hz2 : Z ≤ 100000001 := by rw [HM.out]; exact HBM.out.2
        clear HN HBM
        go_wp2_with (first | (go_at_call 16; refine C.mono ?_; rintro e w2 ⟨rfl, d⟩; have HG : Hid (Below w.heap.size w w2) := HC.out.trans (below_less d (by have := HC.out.size; omega)); have y0 := (HY.out.on d).cell 0 (u := .int .i64 k') rfl; have X2 := HX1.out.on d; have x0' := X2.cell 0 (u := .int .i64 k) rfl; have x1' := X2.cell 1 (u := .int .i64 m) rfl; have x2' := X2.cell 2 (u := .int .i64 a) rfl; have x3' := X2.cell 3 (u := .int .i64 b) rfl; have x4' := X2.cell 4 (u := .bool g) rfl; have x5' := X2.cell 5 (u := .string n) rfl; have x6' := X2.cell 6 (u := .slice sa sl sc) rfl; have x7' := X2.cell 7 (u := .slice (some ⟨bb, off, none⟩) nk cap) rfl; have HX2 : Hid (Bk w2 w.heap.size #[.int .i64 k, .int .i64 m, .int .i64 a, .int .i64 b, .bool g, .string n, .slice sa sl sc, .slice (some ⟨bb, off, none⟩) nk cap] 25) := X2; clear d X2))
        go_roundw
        case rel => exact ⟨j + 1, Z, by omega, by go_num, rfl, HM, hz1, hz2, HG, HX2⟩
        case measure => simp [intOf]; omega
    · have HF : Hid (x = depL q ks) := by
        unfold Hid; rw [HE.out, List.take_of_length_le (by have := HL.out; omega)]
      have x0 := HXr.out.cell 0 (u := .int .i64 k) rfl
      clear HK HI HE
      by_cases c9 : k = 9
      · subst c9
        have hb : br = true := by rw [← HBR.out]; rfl
        subst hb
        go_wp2
        go_ret
        exact ⟨by rw [← HF.out]; rfl, HW.out⟩
      by_cases c10 : k = 10
      · subst c10
        have hb : br = true := by rw [← HBR.out]; rfl
        subst hb
        go_wp2
        go_ret
        exact ⟨by rw [← HF.out]; rfl, HW.out⟩
      by_cases c11 : k = 11
      · subst c11
        have hb : br = true := by rw [← HBR.out]; rfl
        subst hb
        go_wp2
        go_ret
        exact ⟨by rw [← HF.out]; rfl, HW.out⟩
      by_cases c3 : k = 3
      · subst c3
        have hb : br = true := by rw [← HBR.out]; rfl
        subst hb
        go_wp2
        go_ret
        exact ⟨by rw [← HF.out]; rfl, HW.out⟩
      have f9 : (k == 9) = false := by simpa using c9
      have f10 : (k == 10) = false := by simpa using c10
      have f11 : (k == 11) = false := by simpa using c11
      have f3 : (k == 3) = false := by simpa using c3
      have hb : br = false := by rw [← HBR.out]; unfold brack; rw [f9, f10, f11, f3]; rfl
      subst hb
      clear c9 c10 c11 c3
      go_wp2
      go_ret
      exact ⟨by rw [← HF.out]; exact ret_int (by simp), HW.out⟩
theorem depth_any : ∀ (N : Nat) (t : Nd) (v : Value) (w : World), t.sz ≤ N → t.sz ≤ 100000000 → NV w.heap.size w t v → Calls Tryz.prog 16 #[v] w fun e w' => e = .returned (.int .i64 (depN t)) ∧ Below w.heap.size w w' := by
  intro N
  induction N with
  | zero => intro t v w h; obtain ⟨k, m, a, b, g, n, st, ks⟩ := t; rw [Nd.sz] at h; omega
  | succ N ih =>
    intro t v w hN hN2 hv
    obtain ⟨k, m, a, b, g, n, st, ks, sa, sc, ao, cap, rfl, rfl, _, _, _, hk1, hk2, _, hkv⟩ := hv.open
    rw [Nd.sz] at hN hN2
    have hl := len_szL ks
    have HI : Hid (∀ (t : Nd) (v : Value) (W : World), t ∈ ks → NV W.heap.size W t v → Calls Tryz.prog 16 #[v] W fun e w' => e = .returned (.int .i64 (depN t)) ∧ Below W.heap.size W w') := fun t v W hm hv => by
      have := szL_mem hm
      exact ih t v W (by omega) (by omega) hv
    obtain ⟨nk, hnk⟩ : ∃ nk, ks.length = nk := ⟨_, rfl⟩
    rw [hnk]
    rw [hnk] at hk1 hl
    rw [depN]
    exact depth_step k m a b g n ks sa _ sc ao nk cap w hnk (by omega) (by omega) hk1 hkv HI _ rfl _ rfl
end Go.Proofs.YtbdediacfckpcaaGreatDoor.tre
end

section
/- othersZero and others at the nodes of one small tree. -/
set_option linter.unusedVariables false
set_option linter.unusedSimpArgs false
namespace Go.Proofs.YtbdediacfckpcaaGreatDoor.tre
open Go.RowKit nod
open Go.Proofs.YtbdediacfckpcaaGreatDoor.rng (R RV ret_int ret_bool below_drewN info_parts own_below')
open Go.Proofs.YtbdediacfckpcaaGreatDoor.tok (PEnv TX printL)

/-- The writer, its room, the tables. -/
structure Ctx (w0 W : World) (base g : Nat) (s : Wr) : Prop where
  env : PEnv w0
  hb : base = w0.heap.size
  bel : Below base w0 W
  wr : WrAt W base g s
  r0 : 0 ≤ s.room
  r1 : s.text.length + s.room ≤ 2000
theorem Ctx.penv {w0 W : World} {base g : Nat} {s : Wr} (c : Ctx w0 W base g s) : PEnv W := c.env.below (c.hb ▸ c.bel)
theorem Ctx.size {w0 W : World} {base g : Nat} {s : Wr} (c : Ctx w0 W base g s) : base ≤ W.heap.size := by have := c.bel.size; rw [c.hb] at *; exact this
theorem Ctx.on {w0 W W' : World} {base g : Nat} {s : Wr} (c : Ctx w0 W base g s) (h : Below W.heap.size W W') : Ctx w0 W' base g s :=
  ⟨c.env, c.hb, c.bel.trans (below_less h c.size), c.wr.on h, c.r0, c.r1⟩
theorem Ctx.to {w0 W W' : World} {base g : Nat} {s s' : Wr} (c : Ctx w0 W base g s) (k : Kt base W W') (h : WrAt W' base g s') (h0 : 0 ≤ s'.room) (h1 : s'.text.length + s'.room ≤ 2000) : Ctx w0 W' base g s' :=
  ⟨c.env, c.hb, c.bel.trans k.below, h, h0, h1⟩
/-- A text for which there is room is written. -/
theorem putP_ok {s : Wr} {t : ByteArray} (h1 : t.size ≠ 0) (h2 : 0 ≤ s.room - t.size) : putP s t = ((s.less t.size).add t, true) := by unfold putP; rw [if_neg h1, if_pos h2]
theorem put_ctx {w0 W : World} {base g : Nat} {s : Wr} {t : ByteArray} {n : Nat} (c : Ctx w0 W base g s) (hs : t.size = n) (h1 : n ≠ 0) (h2 : (n : Int) ≤ s.room) :
    Calls Tryz.prog 40 #[.pointer (some ⟨g, 0, none⟩), .string t] W fun e w' => e = .returned (.bool true) ∧ Ctx w0 w' base g ((s.less n).add t) ∧ Kt base W w' := by
  subst hs
  refine (put_any base g s t W c.wr c.r0 c.r1 (by have := c.r1; omega)).mono ?_
  rw [putP_ok h1 (by omega)]
  rintro e w' ⟨rfl, d1, d2⟩
  have hl : ((s.less t.size).add t).text.length = s.text.length + t.size := by simp [Wr.add, Wr.less]
  refine ⟨rfl, c.to d2 d1 (by simp only [Wr.add, Wr.less]; omega) ?_, d2⟩
  rw [hl]
  have := c.r1
  simp only [Wr.add, Wr.less]
  omega

theorem repeatable2 (w : World) : Calls Tryz.prog 69 #[.int .i64 2] w fun e w' => e = .returned (.bool true) ∧ w' = w := by
  go_enter Tryz.func69, Tryz.ntmps69
  go_wp2
  go_ret
  exact ⟨rfl, rfl⟩
theorem times1 (w : World) : Calls Tryz.prog 70 #[.int .i64 1, .int .i64 (-1)] w fun e w' => e = .returned (.string ⟨#[43]⟩) ∧ w' = w := by
  go_enter Tryz.func70, Tryz.ntmps70
  go_wp2
  go_ret
  exact ⟨rfl, rfl⟩
set_option maxHeartbeats 2000000 in
set_option maxRecDepth 10000 in
theorem others_dot (w : World) : Calls Tryz.prog 38 #[.agg #[.int .i64 2, .int .i64 0, .int .i64 0, .int .i64 0, .bool false, .string ByteArray.empty, .slice none 0 0, .slice none 0 0]] w fun e w' => e = .returned (.bool true) ∧ Below w.heap.size w w' := by
  have CF := fields_any 2 (w.alloc (.cells #[.int .i64 2, .int .i64 0, .int .i64 0, .int .i64 0, .bool false, .string ByteArray.empty, .slice none 0 0, .slice none 0 0] 25))
  have HB : Hid (Below w.heap.size w ((w.alloc (.cells #[.int .i64 2, .int .i64 0, .int .i64 0, .int .i64 0, .bool false, .string ByteArray.empty, .slice none 0 0, .slice none 0 0] 25)).alloc (.cells #[.int .u64 (fieldsP 2)] 65))) := below2 _ _ _
  have hc : ((w.alloc (.cells #[.int .i64 2, .int .i64 0, .int .i64 0, .int .i64 0, .bool false, .string ByteArray.empty, .slice none 0 0, .slice none 0 0] 25)).alloc (.cells #[.int .u64 (fieldsP 2)] 65)).cell? ⟨w.heap.size + 1, 0, none⟩ = some (.int .u64 (fieldsP 2)) := bk2.cell 0 rfl
  have z : ByteArray.empty.toList.isEmpty = true := by decide +kernel
  generalize fieldsP 2 = F at *
  clear hc
  go_enter Tryz.func38, Tryz.ntmps38
  go_wp2_with (first | (go_at_call 46; refine CF.mono ?_; rintro e w1 ⟨rfl, rfl⟩))
  go_ret
  exact ⟨rfl, HB.out⟩
set_option maxHeartbeats 2000000 in
set_option maxRecDepth 10000 in
theorem others_chr (w : World) : Calls Tryz.prog 38 #[.agg #[.int .i64 1, .int .i64 0, .int .i64 97, .int .i64 0, .bool false, .string ByteArray.empty, .slice none 0 0, .slice none 0 0]] w fun e w' => e = .returned (.bool true) ∧ Below w.heap.size w w' := by
  have CF := fields_any 1 (w.alloc (.cells #[.int .i64 1, .int .i64 0, .int .i64 97, .int .i64 0, .bool false, .string ByteArray.empty, .slice none 0 0, .slice none 0 0] 25))
  have HB : Hid (Below w.heap.size w ((w.alloc (.cells #[.int .i64 1, .int .i64 0, .int .i64 97, .int .i64 0, .bool false, .string ByteArray.empty, .slice none 0 0, .slice none 0 0] 25)).alloc (.cells #[.int .u64 (fieldsP 1)] 65))) := below2 _ _ _
  have hc : ((w.alloc (.cells #[.int .i64 1, .int .i64 0, .int .i64 97, .int .i64 0, .bool false, .string ByteArray.empty, .slice none 0 0, .slice none 0 0] 25)).alloc (.cells #[.int .u64 (fieldsP 1)] 65)).cell? ⟨w.heap.size + 1, 0, none⟩ = some (.int .u64 (fieldsP 1)) := bk2.cell 0 rfl
  have z : ByteArray.empty.toList.isEmpty = true := by decide +kernel
  have M2 := may_any 1 2 (w.heap.size + 1) _ hc
  rw [show may 1 2 = true by decide +kernel] at M2
  generalize fieldsP 1 = F at *
  clear hc
  go_enter Tryz.func38, Tryz.ntmps38
  go_wp2_with (first | (go_at_call 46; refine CF.mono ?_; rintro e w1 ⟨rfl, rfl⟩) | (go_at_call_of 47 (Value.int IntKind.u64 2); refine M2.mono ?_; rintro e w1 ⟨rfl, rfl⟩))
  go_ret
  exact ⟨rfl, HB.out⟩
set_option maxHeartbeats 2000000 in
set_option maxRecDepth 10000 in
theorem others_rep (ao : Option Addr) (cap : Nat) (w : World) : Calls Tryz.prog 38 #[.agg #[.int .i64 8, .int .i64 0, .int .i64 1, .int .i64 (-1), .bool false, .string ByteArray.empty, .slice none 0 0, .slice ao 1 cap]] w fun e w' => e = .returned (.bool true) ∧ Below w.heap.size w w' := by
  have CF := fields_any 8 (w.alloc (.cells #[.int .i64 8, .int .i64 0, .int .i64 1, .int .i64 (-1), .bool false, .string ByteArray.empty, .slice none 0 0, .slice ao 1 cap] 25))
  have HB : Hid (Below w.heap.size w ((w.alloc (.cells #[.int .i64 8, .int .i64 0, .int .i64 1, .int .i64 (-1), .bool false, .string ByteArray.empty, .slice none 0 0, .slice ao 1 cap] 25)).alloc (.cells #[.int .u64 (fieldsP 8)] 65))) := below2 _ _ _
  have hc : ((w.alloc (.cells #[.int .i64 8, .int .i64 0, .int .i64 1, .int .i64 (-1), .bool false, .string ByteArray.empty, .slice none 0 0, .slice ao 1 cap] 25)).alloc (.cells #[.int .u64 (fieldsP 8)] 65)).cell? ⟨w.heap.size + 1, 0, none⟩ = some (.int .u64 (fieldsP 8)) := bk2.cell 0 rfl
  have z : ByteArray.empty.toList.isEmpty = true := by decide +kernel
  have M2 := may_any 8 2 (w.heap.size + 1) _ hc
  rw [show may 8 2 = true by decide +kernel] at M2
  have M4 := may_any 8 4 (w.heap.size + 1) _ hc
  rw [show may 8 4 = true by decide +kernel] at M4
  have M32 := may_any 8 32 (w.heap.size + 1) _ hc
  rw [show may 8 32 = true by decide +kernel] at M32
  generalize fieldsP 8 = F at *
  clear hc
  go_enter Tryz.func38, Tryz.ntmps38
  go_wp2_with (first | (go_at_call 46; refine CF.mono ?_; rintro e w1 ⟨rfl, rfl⟩) | (go_at_call_of 47 (Value.int IntKind.u64 2); refine M2.mono ?_; rintro e w1 ⟨rfl, rfl⟩) | (go_at_call_of 47 (Value.int IntKind.u64 4); refine M4.mono ?_; rintro e w1 ⟨rfl, rfl⟩) | (go_at_call_of 47 (Value.int IntKind.u64 32); refine M32.mono ?_; rintro e w1 ⟨rfl, rfl⟩))
  go_ret
  exact ⟨rfl, HB.out⟩
set_option maxHeartbeats 2000000 in
set_option maxRecDepth 10000 in
theorem others_seq (ao : Option Addr) (cap : Nat) (w : World) : Calls Tryz.prog 38 #[.agg #[.int .i64 6, .int .i64 0, .int .i64 0, .int .i64 0, .bool false, .string ByteArray.empty, .slice none 0 0, .slice ao 2 cap]] w fun e w' => e = .returned (.bool true) ∧ Below w.heap.size w w' := by
  have CF := fields_any 6 (w.alloc (.cells #[.int .i64 6, .int .i64 0, .int .i64 0, .int .i64 0, .bool false, .string ByteArray.empty, .slice none 0 0, .slice ao 2 cap] 25))
  have HB : Hid (Below w.heap.size w ((w.alloc (.cells #[.int .i64 6, .int .i64 0, .int .i64 0, .int .i64 0, .bool false, .string ByteArray.empty, .slice none 0 0, .slice ao 2 cap] 25)).alloc (.cells #[.int .u64 (fieldsP 6)] 65))) := below2 _ _ _
  have hc : ((w.alloc (.cells #[.int .i64 6, .int .i64 0, .int .i64 0, .int .i64 0, .bool false, .string ByteArray.empty, .slice none 0 0, .slice ao 2 cap] 25)).alloc (.cells #[.int .u64 (fieldsP 6)] 65)).cell? ⟨w.heap.size + 1, 0, none⟩ = some (.int .u64 (fieldsP 6)) := bk2.cell 0 rfl
  have z : ByteArray.empty.toList.isEmpty = true := by decide +kernel
  have M32 := may_any 6 32 (w.heap.size + 1) _ hc
  rw [show may 6 32 = true by decide +kernel] at M32
  generalize fieldsP 6 = F at *
  clear hc
  go_enter Tryz.func38, Tryz.ntmps38
  go_wp2_with (first | (go_at_call 46; refine CF.mono ?_; rintro e w1 ⟨rfl, rfl⟩) | (go_at_call_of 47 (Value.int IntKind.u64 32); refine M32.mono ?_; rintro e w1 ⟨rfl, rfl⟩))
  go_ret
  exact ⟨rfl, HB.out⟩
theorem nodeT : (25 : TypeId) ≠ 52 ∧ (25 : TypeId) ≠ 5 ∧ (25 : TypeId) ≠ 9 := by decide

end Go.Proofs.YtbdediacfckpcaaGreatDoor.tre
end

section
/- A part that is a dot. -/
set_option linter.unusedVariables false
set_option linter.unusedSimpArgs false
namespace Go.Proofs.YtbdediacfckpcaaGreatDoor.tre
open Go.RowKit nod
open Go.Proofs.YtbdediacfckpcaaGreatDoor.rng (R RV ret_int ret_bool below_drewN info_parts own_below')
open Go.Proofs.YtbdediacfckpcaaGreatDoor.tok (PEnv TX printL)

set_option maxRecDepth 10000 in
set_option maxHeartbeats 4000000 in
theorem part_dot {w0 W : World} {base g : Nat} {s : Wr} (c : Ctx w0 W base g s) (h2 : 1 ≤ s.room) :
    Calls Tryz.prog 39 #[.pointer (some ⟨g, 0, none⟩), .agg #[.int .i64 2, .int .i64 0, .int .i64 0, .int .i64 0, .bool false, .string ByteArray.empty, .slice none 0 0, .slice none 0 0]] W fun e w' => e = .returned (.bool true) ∧ Ctx w0 w' base g ((s.less 1).add ⟨#[46]⟩) ∧ Kt base W w' := by
  have B1 : Below W.heap.size W (W.alloc (.cells #[.int .i64 2, .int .i64 0, .int .i64 0, .int .i64 0, .bool false, .string ByteArray.empty, .slice none 0 0, .slice none 0 0] 25)) := (Below.refl _ W).alloc (Nat.le_refl _) _
  have HX : Hid (Bk (W.alloc (.cells #[.int .i64 2, .int .i64 0, .int .i64 0, .int .i64 0, .bool false, .string ByteArray.empty, .slice none 0 0, .slice none 0 0] 25)) W.heap.size #[.int .i64 2, .int .i64 0, .int .i64 0, .int .i64 0, .bool false, .string ByteArray.empty, .slice none 0 0, .slice none 0 0] 25) := Bk.new W _ _
  have HC : Hid (∀ W', Below W.heap.size W W' → Ctx w0 W' base g s ∧ Kt base W W') := fun W' h => ⟨c.on h, Kt.of_below h c.size⟩
  have HB : Hid (Below W.heap.size W (W.alloc (.cells #[.int .i64 2, .int .i64 0, .int .i64 0, .int .i64 0, .bool false, .string ByteArray.empty, .slice none 0 0, .slice none 0 0] 25))) := B1
  have hgs := c.wr.lt
  have CO := others_dot (W.alloc (.cells #[.int .i64 2, .int .i64 0, .int .i64 0, .int .i64 0, .bool false, .string ByteArray.empty, .slice none 0 0, .slice none 0 0] 25))
  have HP : Hid (∀ W', Ctx w0 W' base g s → Calls Tryz.prog 40 #[.pointer (some ⟨g, 0, none⟩), .string ⟨#[46]⟩] W' fun e w' => e = .returned (.bool true) ∧ Ctx w0 w' base g ((s.less 1).add ⟨#[46]⟩) ∧ Kt base W' w') := fun W' c' => put_ctx c' (n := 1) rfl (by decide) (by omega)
  clear c B1
  go_enter Tryz.func39, Tryz.ntmps39
  go_wp2_with (first
    | (go_at_call 38; refine CO.mono ?_; rintro e w1 ⟨rfl, d⟩; have HD : Hid (Below W.heap.size W w1) := HB.out.trans (below_less d (by simp)); have x0 := (HX.out.on d).cell 0 (u := .int .i64 2) rfl; have x1 := (HX.out.on d).cell 1 (u := .int .i64 0) rfl; have x2 := (HX.out.on d).cell 2 (u := .int .i64 0) rfl; have x3 := (HX.out.on d).cell 3 (u := .int .i64 0) rfl; have x4 := (HX.out.on d).cell 4 (u := .bool false) rfl; have x5 := (HX.out.on d).cell 5 (u := .string ByteArray.empty) rfl; have x6 := (HX.out.on d).cell 6 (u := .slice none 0 0) rfl; have x7 := (HX.out.on d).cell 7 (u := .slice none 0 0) rfl; clear d)
    | (go_at_call 40; refine (HP.out _ (HC.out _ HD.out).1).mono ?_; rintro e w2 ⟨rfl, d1, d2⟩; have HR : Hid (Ctx w0 w2 base g ((s.less 1).add ⟨#[46]⟩)) := d1; have HK : Hid (Kt base _ w2) := d2; clear d1 d2))
  go_ret
  exact ⟨rfl, HR.out, (HC.out _ HD.out).2.trans HK.out⟩
end Go.Proofs.YtbdediacfckpcaaGreatDoor.tre
end

section
/- A dot, repeated. -/
set_option linter.unusedVariables false
set_option linter.unusedSimpArgs false
namespace Go.Proofs.YtbdediacfckpcaaGreatDoor.tre
open Go.RowKit nod
open Go.Proofs.YtbdediacfckpcaaGreatDoor.rng (R RV ret_int ret_bool below_drewN info_parts own_below')
open Go.Proofs.YtbdediacfckpcaaGreatDoor.tok (PEnv TX printL)

theorem rep_texts (W' : World) : Calls Tryz.prog 37 #[.int .i64 0, .slice (some ⟨W'.heap.size, 0, none⟩) 3 3] (W'.alloc (.cells #[.string ByteArray.empty, .string ⟨#[63]⟩, .string ⟨#[43]⟩] 9)) fun e w' => e = .returned (.string ByteArray.empty) ∧ w' = (W'.alloc (.cells #[.string ByteArray.empty, .string ⟨#[63]⟩, .string ⟨#[43]⟩] 9)) := by
  have c0 : (W'.alloc (.cells #[.string ByteArray.empty, .string ⟨#[63]⟩, .string ⟨#[43]⟩] 9)).cell? ⟨W'.heap.size, 0, none⟩ = some (.string ByteArray.empty) := (Bk.new W' _ _).cell 0 rfl
  generalize W'.alloc (.cells #[.string ByteArray.empty, .string ⟨#[63]⟩, .string ⟨#[43]⟩] 9) = V at *
  generalize W'.heap.size = vb at *
  go_enter Tryz.func37, Tryz.ntmps37
  go_wp2
  go_ret
  exact ⟨rfl, rfl⟩
set_option maxRecDepth 10000 in
set_option maxHeartbeats 4000000 in
theorem repeat_dot {w0 W : World} {base g : Nat} {s : Wr} {kb ko cap : Nat} (c : Ctx w0 W base g s) (h2 : 2 ≤ s.room) (hk : kb < base) (e0 : At8 w0 kb ko (.agg #[.int .i64 2, .int .i64 0, .int .i64 0, .int .i64 0, .bool false, .string ByteArray.empty, .slice none 0 0, .slice none 0 0])) (hcap : 1 ≤ cap) :
    Calls Tryz.prog 51 #[.pointer (some ⟨g, 0, none⟩), .agg #[.int .i64 8, .int .i64 0, .int .i64 1, .int .i64 (-1), .bool false, .string ByteArray.empty, .slice none 0 0, .slice (some ⟨kb, ko, none⟩) 1 cap]] W fun e w' => e = .returned (.bool true) ∧ Ctx w0 w' base g ((((s.less 1).add ⟨#[46]⟩).less 1).add ⟨#[43]⟩) ∧ Kt base W w' := by
  have B1 : Below W.heap.size W (W.alloc (.cells #[.int .i64 8, .int .i64 0, .int .i64 1, .int .i64 (-1), .bool false, .string ByteArray.empty, .slice none 0 0, .slice (some ⟨kb, ko, none⟩) 1 cap] 25)) := (Below.refl _ W).alloc (Nat.le_refl _) _
  have HX : Hid (Bk (W.alloc (.cells #[.int .i64 8, .int .i64 0, .int .i64 1, .int .i64 (-1), .bool false, .string ByteArray.empty, .slice none 0 0, .slice (some ⟨kb, ko, none⟩) 1 cap] 25)) W.heap.size #[.int .i64 8, .int .i64 0, .int .i64 1, .int .i64 (-1), .bool false, .string ByteArray.empty, .slice none 0 0, .slice (some ⟨kb, ko, none⟩) 1 cap] 25) := Bk.new W _ _
  have HC : Hid (∀ W', Below W.heap.size W W' → Ctx w0 W' base g s ∧ Kt base W W') := fun W' h => ⟨c.on h, Kt.of_below h c.size⟩
  have HB : Hid (Below W.heap.size W (W.alloc (.cells #[.int .i64 8, .int .i64 0, .int .i64 1, .int .i64 (-1), .bool false, .string ByteArray.empty, .slice none 0 0, .slice (some ⟨kb, ko, none⟩) 1 cap] 25))) := B1
  have hgs := c.wr.lt
  have HK0 : Hid (∀ W', Below base w0 W' → At8 W' kb ko (.agg #[.int .i64 2, .int .i64 0, .int .i64 0, .int .i64 0, .bool false, .string ByteArray.empty, .slice none 0 0, .slice none 0 0])) := fun W' h => e0.below h hk
  have HCB : Hid (∀ W', Below W.heap.size W W' → Below base w0 W') := fun W' h => c.bel.trans (below_less h c.size)
  obtain ⟨P, hP⟩ : ∃ P : ByteArray, P = ⟨#[43]⟩ := ⟨_, rfl⟩
  obtain ⟨Z, hZ⟩ : ∃ Z : ByteArray, Z = ByteArray.empty := ⟨_, rfl⟩
  have p2 : P.size = 1 := by rw [hP]; rfl
  have p1 : P.toList.isEmpty = false := lin.isEmpty_not (by omega)
  have p3 : Z.size = 0 := by rw [hZ]; rfl
  have p4 : P ++ Z = P := by rw [hZ]; exact ByteArray.append_empty
  have HPP : Hid (P = ⟨#[43]⟩) := hP
  have HP : Hid (∀ W', Ctx w0 W' base g ((s.less 1).add ⟨#[46]⟩) → Calls Tryz.prog 40 #[.pointer (some ⟨g, 0, none⟩), .string P] W' fun e w' => e = .returned (.bool true) ∧ Ctx w0 w' base g ((((s.less 1).add ⟨#[46]⟩).less 1).add P) ∧ Kt base W' w') := fun W' c' => put_ctx c' (n := 1) p2 (by decide) (by simp [Wr.less, Wr.add]; omega)
  have HD0 : Hid (∀ W', Ctx w0 W' base g s → Calls Tryz.prog 39 #[.pointer (some ⟨g, 0, none⟩), .agg #[.int .i64 2, .int .i64 0, .int .i64 0, .int .i64 0, .bool false, .string ByteArray.empty, .slice none 0 0, .slice none 0 0]] W' fun e w' => e = .returned (.bool true) ∧ Ctx w0 w' base g ((s.less 1).add ⟨#[46]⟩) ∧ Kt base W' w') := fun W' c' => part_dot c' (by omega)
  have hkk := HK0.out _ (HCB.out _ HB.out)
  obtain ⟨c0, c1, c2, c3, c4, c5, c6, c7, ee, k0, k1, k2, k3, k4, k5, k6, k7⟩ := hkk
  simp only [Value.agg.injEq, Array.mk.injEq, List.cons.injEq, and_true] at ee
  obtain ⟨rfl, rfl, rfl, rfl, rfl, rfl, rfl, rfl⟩ := ee
  have HSZ : Hid (base ≤ W.heap.size) := c.size
  have T1 : Hid (∀ W' : World, Calls Tryz.prog 70 #[.int .i64 1, .int .i64 (-1)] W' fun e w' => e = .returned (.string P) ∧ W' = w') := fun W' => (times1 W').mono (by rintro e w' ⟨rfl, rfl⟩; exact ⟨by rw [hP], rfl⟩)
  have HTX2 : Hid (∀ W' : World, Calls Tryz.prog 37 #[.int .i64 0, .slice (some ⟨W'.heap.size, 0, none⟩) 3 3] (W'.alloc (.cells #[.string ByteArray.empty, .string ⟨#[63]⟩, .string ⟨#[43]⟩] 9)) fun e w' => e = .returned (.string Z) ∧ (W'.alloc (.cells #[.string ByteArray.empty, .string ⟨#[63]⟩, .string ⟨#[43]⟩] 9)) = w') := fun W' => (rep_texts W').mono (by rintro e w' ⟨rfl, rfl⟩; exact ⟨by rw [hZ], rfl⟩)
  clear c B1 e0 hP hZ
  go_enter Tryz.func51, Tryz.ntmps51
  go_wp2_with (first
    | (go_at_call 69; refine (repeatable2 _).mono ?_; rintro e w1 ⟨rfl, rfl⟩)
    | (go_at_call 70; refine (T1.out _).mono ?_; rintro e w1 ⟨rfl, rfl⟩)
    | (go_at_call 39; refine (HD0.out _ (HC.out _ HB.out).1).mono ?_; rintro e w1 ⟨rfl, d1, d2⟩; have HR1 : Hid (Ctx w0 w1 base g ((s.less 1).add ⟨#[46]⟩)) := d1; have HK1 : Hid (Kt base _ w1) := d2; have x1 := (Bk.kt HX.out d2 nodeT.1 nodeT.2.1 nodeT.2.2).cell 1 (u := .int .i64 0) rfl; clear d1 d2)
    | (go_at_call 37; refine (HTX2.out _).mono ?_; rintro e w2 ⟨rfl, rfl⟩)
    | (go_at_call 40; refine (HP.out _ (HR1.out.on ((Below.refl _ w1).alloc (Nat.le_refl _) _))).mono ?_; rintro e w3 ⟨rfl, d1, d2⟩; have HR : Hid (Ctx w0 w3 base g ((((s.less 1).add ⟨#[46]⟩).less 1).add P)) := d1; have HK : Hid (Kt base _ w3) := d2; clear d1 d2))
  go_ret
  exact ⟨rfl, (by have h := HR.out; rw [HPP.out] at h; exact h), ((HC.out _ HB.out).2.trans HK1.out).trans ((Kt.of_below ((Below.refl _ w1).alloc (Nat.le_refl _) _) HR1.out.size).trans HK.out)⟩
end Go.Proofs.YtbdediacfckpcaaGreatDoor.tre
end

section
/- A part that is a dot, repeated. -/
set_option linter.unusedVariables false
set_option linter.unusedSimpArgs false
namespace Go.Proofs.YtbdediacfckpcaaGreatDoor.tre
open Go.RowKit nod
open Go.Proofs.YtbdediacfckpcaaGreatDoor.rng (R RV ret_int ret_bool below_drewN info_parts own_below')
open Go.Proofs.YtbdediacfckpcaaGreatDoor.tok (PEnv TX printL)

set_option maxRecDepth 10000 in
set_option maxHeartbeats 4000000 in
theorem part_rep {w0 W : World} {base g : Nat} {s : Wr} {kb ko cap : Nat} (c : Ctx w0 W base g s) (h2 : 2 ≤ s.room) (hk : kb < base) (e0 : At8 w0 kb ko (.agg #[.int .i64 2, .int .i64 0, .int .i64 0, .int .i64 0, .bool false, .string ByteArray.empty, .slice none 0 0, .slice none 0 0])) (hcap : 1 ≤ cap) :
    Calls Tryz.prog 39 #[.pointer (some ⟨g, 0, none⟩), .agg #[.int .i64 8, .int .i64 0, .int .i64 1, .int .i64 (-1), .bool false, .string ByteArray.empty, .slice none 0 0, .slice (some ⟨kb, ko, none⟩) 1 cap]] W fun e w' => e = .returned (.bool true) ∧ Ctx w0 w' base g ((((s.less 1).add ⟨#[46]⟩).less 1).add ⟨#[43]⟩) ∧ Kt base W w' := by
  have B1 : Below W.heap.size W (W.alloc (.cells #[.int .i64 8, .int .i64 0, .int .i64 1, .int .i64 (-1), .bool false, .string ByteArray.empty, .slice none 0 0, .slice (some ⟨kb, ko, none⟩) 1 cap] 25)) := (Below.refl _ W).alloc (Nat.le_refl _) _
  have HX : Hid (Bk (W.alloc (.cells #[.int .i64 8, .int .i64 0, .int .i64 1, .int .i64 (-1), .bool false, .string ByteArray.empty, .slice none 0 0, .slice (some ⟨kb, ko, none⟩) 1 cap] 25)) W.heap.size #[.int .i64 8, .int .i64 0, .int .i64 1, .int .i64 (-1), .bool false, .string ByteArray.empty, .slice none 0 0, .slice (some ⟨kb, ko, none⟩) 1 cap] 25) := Bk.new W _ _
  have HC : Hid (∀ W', Below W.heap.size W W' → Ctx w0 W' base g s ∧ Kt base W W') := fun W' h => ⟨c.on h, Kt.of_below h c.size⟩
  have HB : Hid (Below W.heap.size W (W.alloc (.cells #[.int .i64 8, .int .i64 0, .int .i64 1, .int .i64 (-1), .bool false, .string ByteArray.empty, .slice none 0 0, .slice (some ⟨kb, ko, none⟩) 1 cap] 25))) := B1
  have hgs := c.wr.lt
  have CO := others_rep (some ⟨kb, ko, none⟩) cap (W.alloc (.cells #[.int .i64 8, .int .i64 0, .int .i64 1, .int .i64 (-1), .bool false, .string ByteArray.empty, .slice none 0 0, .slice (some ⟨kb, ko, none⟩) 1 cap] 25))
  have HP : Hid (∀ W', Ctx w0 W' base g s → Calls Tryz.prog 51 #[.pointer (some ⟨g, 0, none⟩), .agg #[.int .i64 8, .int .i64 0, .int .i64 1, .int .i64 (-1), .bool false, .string ByteArray.empty, .slice none 0 0, .slice (some ⟨kb, ko, none⟩) 1 cap]] W' fun e w' => e = .returned (.bool true) ∧ Ctx w0 w' base g ((((s.less 1).add ⟨#[46]⟩).less 1).add ⟨#[43]⟩) ∧ Kt base W' w') := fun W' c' => repeat_dot c' h2 hk e0 hcap
  clear c B1
  go_enter Tryz.func39, Tryz.ntmps39
  go_wp2_with (first
    | (go_at_call 38; refine CO.mono ?_; rintro e w1 ⟨rfl, d⟩; have HD : Hid (Below W.heap.size W w1) := HB.out.trans (below_less d (by simp)); have x0 := (HX.out.on d).cell 0 (u := .int .i64 8) rfl; have x1 := (HX.out.on d).cell 1 (u := .int .i64 0) rfl; have x2 := (HX.out.on d).cell 2 (u := .int .i64 1) rfl; have x3 := (HX.out.on d).cell 3 (u := .int .i64 (-1)) rfl; have x4 := (HX.out.on d).cell 4 (u := .bool false) rfl; have x5 := (HX.out.on d).cell 5 (u := .string ByteArray.empty) rfl; have x6 := (HX.out.on d).cell 6 (u := .slice none 0 0) rfl; have x7 := (HX.out.on d).cell 7 (u := .slice (some ⟨kb, ko, none⟩) 1 cap) rfl; clear d)
    | (go_at_call 51; refine (HP.out _ (HC.out _ HD.out).1).mono ?_; rintro e w2 ⟨rfl, d1, d2⟩; have HR : Hid (Ctx w0 w2 base g ((((s.less 1).add ⟨#[46]⟩).less 1).add ⟨#[43]⟩)) := d1; have HK : Hid (Kt base _ w2) := d2; clear d1 d2))
  go_ret
  exact ⟨rfl, HR.out, (HC.out _ HD.out).2.trans HK.out⟩
end Go.Proofs.YtbdediacfckpcaaGreatDoor.tre
end

section
/- A part that is a letter. -/
set_option linter.unusedVariables false
set_option linter.unusedSimpArgs false
namespace Go.Proofs.YtbdediacfckpcaaGreatDoor.tre
open Go.RowKit nod
open Go.Proofs.YtbdediacfckpcaaGreatDoor.rng (R RV ret_int ret_bool below_drewN info_parts own_below')
open Go.Proofs.YtbdediacfckpcaaGreatDoor.tok (PEnv TX printL)

set_option maxRecDepth 10000 in
set_option maxHeartbeats 4000000 in
theorem part_chr {w0 W : World} {base g : Nat} {s : Wr} (c : Ctx w0 W base g s) (h2 : 1 ≤ s.room) :
    Calls Tryz.prog 39 #[.pointer (some ⟨g, 0, none⟩), .agg #[.int .i64 1, .int .i64 0, .int .i64 97, .int .i64 0, .bool false, .string ByteArray.empty, .slice none 0 0, .slice none 0 0]] W fun e w' => e = .returned (.bool true) ∧ Ctx w0 w' base g ((s.less 1).add ⟨#[97]⟩) ∧ Kt base W w' := by
  have B1 : Below W.heap.size W (W.alloc (.cells #[.int .i64 1, .int .i64 0, .int .i64 97, .int .i64 0, .bool false, .string ByteArray.empty, .slice none 0 0, .slice none 0 0] 25)) := (Below.refl _ W).alloc (Nat.le_refl _) _
  have HX : Hid (Bk (W.alloc (.cells #[.int .i64 1, .int .i64 0, .int .i64 97, .int .i64 0, .bool false, .string ByteArray.empty, .slice none 0 0, .slice none 0 0] 25)) W.heap.size #[.int .i64 1, .int .i64 0, .int .i64 97, .int .i64 0, .bool false, .string ByteArray.empty, .slice none 0 0, .slice none 0 0] 25) := Bk.new W _ _
  have HC : Hid (∀ W', Below W.heap.size W W' → Ctx w0 W' base g s ∧ Kt base W W') := fun W' h => ⟨c.on h, Kt.of_below h c.size⟩
  have HB : Hid (Below W.heap.size W (W.alloc (.cells #[.int .i64 1, .int .i64 0, .int .i64 97, .int .i64 0, .bool false, .string ByteArray.empty, .slice none 0 0, .slice none 0 0] 25))) := B1
  have hgs := c.wr.lt
  have CO := others_chr (W.alloc (.cells #[.int .i64 1, .int .i64 0, .int .i64 97, .int .i64 0, .bool false, .string ByteArray.empty, .slice none 0 0, .slice none 0 0] 25))
  have HP : Hid (∀ W', Ctx w0 W' base g s → Calls Tryz.prog 40 #[.pointer (some ⟨g, 0, none⟩), .string ⟨#[97]⟩] W' fun e w' => e = .returned (.bool true) ∧ Ctx w0 w' base g ((s.less 1).add ⟨#[97]⟩) ∧ Kt base W' w') := fun W' c' => put_ctx c' (n := 1) rfl (by decide) (by omega)
  have HT : Hid (∀ W', Below W.heap.size W W' → Calls Tryz.prog 48 #[.int .i64 97, .bool false] W' fun e w' => e = .returned (.string ⟨#[97]⟩) ∧ Below W.heap.size W w') := fun W' h => by
    have e1 : TX (printL 97 false) = ⟨#[97]⟩ := by decide +kernel
    have := tok.print_any 97 false W' ((c.on h).penv)
    rw [e1] at this
    exact this.mono (by rintro e w' ⟨rfl, d⟩; exact ⟨rfl, h.trans (below_less d h.size)⟩)
  clear c B1
  go_enter Tryz.func39, Tryz.ntmps39
  go_wp2_with (first
    | (go_at_call 38; refine CO.mono ?_; rintro e w1 ⟨rfl, d⟩; have HD : Hid (Below W.heap.size W w1) := HB.out.trans (below_less d (by simp)); have x0 := (HX.out.on d).cell 0 (u := .int .i64 1) rfl; have x1 := (HX.out.on d).cell 1 (u := .int .i64 0) rfl; have x2 := (HX.out.on d).cell 2 (u := .int .i64 97) rfl; have x3 := (HX.out.on d).cell 3 (u := .int .i64 0) rfl; have x4 := (HX.out.on d).cell 4 (u := .bool false) rfl; have x5 := (HX.out.on d).cell 5 (u := .string ByteArray.empty) rfl; have x6 := (HX.out.on d).cell 6 (u := .slice none 0 0) rfl; have x7 := (HX.out.on d).cell 7 (u := .slice none 0 0) rfl; clear d)
    | (go_at_call 48; refine (HT.out _ HD.out).mono ?_; clear HD x0 x1 x2 x3 x4 x5 x6 x7; rintro e w1 ⟨rfl, d⟩; have HD : Hid (Below W.heap.size W w1) := d; clear d)
    | (go_at_call 40; refine (HP.out _ (HC.out _ HD.out).1).mono ?_; rintro e w2 ⟨rfl, d1, d2⟩; have HR : Hid (Ctx w0 w2 base g ((s.less 1).add ⟨#[97]⟩)) := d1; have HK : Hid (Kt base _ w2) := d2; clear d1 d2))
  go_ret
  exact ⟨rfl, HR.out, (HC.out _ HD.out).2.trans HK.out⟩
end Go.Proofs.YtbdediacfckpcaaGreatDoor.tre
end
