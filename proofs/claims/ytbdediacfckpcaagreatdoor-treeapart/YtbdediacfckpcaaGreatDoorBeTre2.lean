/- Texts that the proof leans on, one behind the other. -/
import Derived.Test.YtbdediacfckpcaaGreatDoorBeTre1
import Derived.Lib.ItoaNum
import Derived.Lib.SlicesS

section
/- Depth of package tree. -/
set_option linter.unusedVariables false
set_option linter.unusedSimpArgs false
namespace Go.Proofs.YtbdediacfckpcaaGreatDoor.tre
open Go.RowKit nod
open Go.Proofs.YtbdediacfckpcaaGreatDoor.rng (R RV ret_int ret_bool below_drewN info_parts own_below')

set_option maxRecDepth 10000 in
set_option maxHeartbeats 8000000 in
theorem depth_step (k : Int) (m a b : Int) (g : Bool) (n : ByteArray) (ks : List Nd) (sa : Option Addr) (sl sc : Nat) (ao : Option Addr) (nk cap : Nat) (w : World) (HL : Hid (ks.length = nk)) (hk3 : nk ≤ 1000000000) (hs : szL ks ≤ 100000000) (hcap : nk ≤ cap) (HK : Hid (KV w.heap.size w ao ks)) (HI : Hid (∀ (t : Nd) (v : Value) (W : World), t ∈ ks → NV W.heap.size W t v → Calls Tryz.prog 16 #[v] W fun e w' => e = .returned (.int .i64 (depN t)) ∧ Below W.heap.size W w')) (q : Bool) (hq : sided k m = q) (br : Bool) (hbr : brack k = br) :
    Calls Tryz.prog 16 #[.agg #[.int .i64 k, .int .i64 m, .int .i64 a, .int .i64 b, .bool g, .string n, .slice sa sl sc, .slice ao nk cap]] w fun e w' => e = .returned (.int .i64 (depL q ks + (if br then 1 else 0))) ∧ Below w.heap.size w w' := by
  have HB : Hid (Below w.heap.size w (w.alloc (.cells #[.int .i64 k, .int .i64 m, .int .i64 a, .int .i64 b, .bool g, .string n, .slice sa sl sc, .slice ao nk cap] 25))) := (Below.refl _ w).alloc (Nat.le_refl _) _
  have HX : Hid (Bk (w.alloc (.cells #[.int .i64 k, .int .i64 m, .int .i64 a, .int .i64 b, .bool g, .string n, .slice sa sl sc, .slice ao nk cap] 25)) w.heap.size #[.int .i64 k, .int .i64 m, .int .i64 a, .int .i64 b, .bool g, .string n, .slice sa sl sc, .slice ao nk cap] 25) := Bk.new w _ _
  have CS : Hid (∀ W, Calls Tryz.prog 21 #[.agg #[.int .i64 k, .int .i64 m, .int .i64 a, .int .i64 b, .bool g, .string n, .slice sa sl sc, .slice ao nk cap]] W fun e w' => e = .returned (.bool q) ∧ Below W.heap.size W w') := fun W => hq ▸ sides_any k m a b g n (.slice sa sl sc) (.slice ao nk cap) W
  have HBR : Hid (brack k = br) := hbr
  clear hq hbr
  go_enter Tryz.func16, Tryz.ntmps16
  go_wp2
  go_loopw [3, 10] (fun c i wr => ∃ (j : Nat) (x : Int), j ≤ nk ∧ i = .int .i64 j ∧ c = .int .i64 x ∧ Hid (x = depL q (ks.take j)) ∧ 0 ≤ x ∧ x ≤ 100000001 ∧ Hid (Below w.heap.size w wr) ∧ Hid (Bk wr w.heap.size #[.int .i64 k, .int .i64 m, .int .i64 a, .int .i64 b, .bool g, .string n, .slice sa sl sc, .slice ao nk cap] 25)) (fun _ i _ => nk - (intOf i).toNat)
  case atStart => exact ⟨0, 0, Nat.zero_le _, rfl, rfl, by unfold Hid; simp [depL], by omega, by omega, HB, HX⟩
  case round =>
    obtain ⟨j, x, hj, rfl, rfl, HE, x1, x2, HW, HXr⟩ := hrel
    clear HB HX
    have hwl := HXr.out.lt
    by_cases hlt : j < nk
    · obtain ⟨t, ht⟩ := getX HL.out hlt
      obtain ⟨bb, off, rfl, hka⟩ := (HK.out.below HW.out).some (by have := HL.out; omega)
      obtain ⟨k', m', a', b', g', n', s', kk, sa', sc', ao', cap', rfl, ⟨e0, e1, e2, e3, e4, e5, e6, e7⟩, hv'⟩ := hka.kid ht
      have hmem := List.mem_of_getElem? ht
      generalize s'.length = sl' at *
      generalize kk.length = nk' at *
      have W1 : Below w.heap.size wr (wr.alloc (.cells #[.int .i64 k', .int .i64 m', .int .i64 a', .int .i64 b', .bool g', .string n', .slice sa' sl' sc', .slice ao' nk' cap'] 25)) := (Below.refl _ wr).alloc HW.out.size _
      have C := HI.out _ _ (wr.alloc (.cells #[.int .i64 k', .int .i64 m', .int .i64 a', .int .i64 b', .bool g', .string n', .slice sa' sl' sc', .slice ao' nk' cap'] 25)) hmem ((hv'.keep W1).wide (by have := HW.out.size; simp; omega))
      have HC : Hid (Below w.heap.size w (wr.alloc (.cells #[.int .i64 k', .int .i64 m', .int .i64 a', .int .i64 b', .bool g', .string n', .slice sa' sl' sc', .slice ao' nk' cap'] 25))) := HW.out.trans W1
      have HY : Hid (Bk (wr.alloc (.cells #[.int .i64 k', .int .i64 m', .int .i64 a', .int .i64 b', .bool g', .string n', .slice sa' sl' sc', .slice ao' nk' cap'] 25)) wr.heap.size #[.int .i64 k', .int .i64 m', .int .i64 a', .int .i64 b', .bool g', .string n', .slice sa' sl' sc', .slice ao' nk' cap'] 25) := Bk.new wr _ _
      have HX1 : Hid (Bk (wr.alloc (.cells #[.int .i64 k', .int .i64 m', .int .i64 a', .int .i64 b', .bool g', .string n', .slice sa' sl' sc', .slice ao' nk' cap'] 25)) w.heap.size #[.int .i64 k, .int .i64 m, .int .i64 a, .int .i64 b, .bool g, .string n, .slice sa sl sc, .slice (some ⟨bb, off, none⟩) nk cap] 25) := HXr.out.past _
      have hdb := dep_bounds _ (.mk k' m' a' b' g' n' s' kk) (Nat.le_refl _)
      obtain ⟨r, hr⟩ : ∃ r, depN (.mk k' m' a' b' g' n' s' kk) = r := ⟨_, rfl⟩
      have HN : Hid (depL q (ks.take (j + 1)) = max x (r - (if k' == 3 && q then 1 else 0))) := by unfold Hid; rw [takeX ht, depL_snoc, hr, HE.out]; rfl
      have hb2 : 0 ≤ depL q (ks.take (j + 1)) ∧ depL q (ks.take (j + 1)) ≤ 100000001 := by
        have := depL_bound q (ks.take (j + 1)); have := depL_nonneg q (ks.take (j + 1)); have := szL_take ks (j + 1); omega
      have hrb : r ≤ 100000000 := by have := szL_mem hmem; omega
      have hr0 : 0 ≤ r := by omega
      rw [hr] at C
      have HBM : Hid (0 ≤ depL q (ks.take (j + 1)) ∧ depL q (ks.take (j + 1)) ≤ 100000001) := hb2
      clear HE HK HW hka hv' hmem W1 HI hr ht hdb hb2 HXr
      by_cases ck : k' = 3
      · subst ck
        cases q with
        | true =>
          obtain ⟨Z, hZ⟩ : ∃ Z, max x (r - 1) = Z := ⟨_, rfl⟩
          have hZ' : (if x < r - 1 then r - 1 else x) = Z := by rw [← hZ]; split <;> omega
          have HM : Hid (Z = depL true (ks.take (j + 1))) := by unfold Hid; rw [HN.out, ← hZ]; simp
          have hz1 : 0 ≤ Z := by rw [HM.out]; exact HBM.out.1
          have hz2 : Z ≤ 100000001 := by rw [HM.out]; exact HBM.out.2
          clear HN HBM
          go_wp2_with (first | (go_at_call 16; refine C.mono ?_; rintro e w2 ⟨rfl, d⟩; have HG : Hid (Below w.heap.size w w2) := HC.out.trans (below_less d (by have := HC.out.size; omega)); have y0 := (HY.out.on d).cell 0 (u := .int .i64 3) rfl; have X2 := HX1.out.on d; have x0' := X2.cell 0 (u := .int .i64 k) rfl; have x1' := X2.cell 1 (u := .int .i64 m) rfl; have x2' := X2.cell 2 (u := .int .i64 a) rfl; have x3' := X2.cell 3 (u := .int .i64 b) rfl; have x4' := X2.cell 4 (u := .bool g) rfl; have x5' := X2.cell 5 (u := .string n) rfl; have x6' := X2.cell 6 (u := .slice sa sl sc) rfl; have x7' := X2.cell 7 (u := .slice (some ⟨bb, off, none⟩) nk cap) rfl; have HX2 : Hid (Bk w2 w.heap.size #[.int .i64 k, .int .i64 m, .int .i64 a, .int .i64 b, .bool g, .string n, .slice sa sl sc, .slice (some ⟨bb, off, none⟩) nk cap] 25) := X2; clear d X2) | (go_at_call 21; refine (CS.out _).mono ?_; rintro e w3 ⟨rfl, d⟩; have HG3 : Hid (Below w.heap.size w w3) := HG.out.trans (below_less d (by have := HG.out.size; omega)); have HX3 : Hid (Bk w3 w.heap.size #[.int .i64 k, .int .i64 m, .int .i64 a, .int .i64 b, .bool g, .string n, .slice sa sl sc, .slice (some ⟨bb, off, none⟩) nk cap] 25) := HX2.out.on d; clear d))
          go_roundw
          case rel => exact ⟨j + 1, Z, by omega, by go_num, rfl, HM, hz1, hz2, HG3, HX3⟩
          case measure => simp [intOf]; omega
        | false =>
          obtain ⟨Z, hZ⟩ : ∃ Z, max x (r) = Z := ⟨_, rfl⟩
          have hZ' : (if x < r then r else x) = Z := by rw [← hZ]; split <;> omega
          have HM : Hid (Z = depL false (ks.take (j + 1))) := by unfold Hid; rw [HN.out, ← hZ]; simp
          have hz1 : 0 ≤ Z := by rw [HM.out]; exact HBM.out.1
          have hz2 : Z ≤ 100000001 := by rw [HM.out]; exact HBM.out.2
          clear HN HBM
          go_wp2_with (first | (go_at_call 16; refine C.mono ?_; rintro e w2 ⟨rfl, d⟩; have HG : Hid (Below w.heap.size w w2) := HC.out.trans (below_less d (by have := HC.out.size; omega)); have y0 := (HY.out.on d).cell 0 (u := .int .i64 3) rfl; have X2 := HX1.out.on d; have x0' := X2.cell 0 (u := .int .i64 k) rfl; have x1' := X2.cell 1 (u := .int .i64 m) rfl; have x2' := X2.cell 2 (u := .int .i64 a) rfl; have x3' := X2.cell 3 (u := .int .i64 b) rfl; have x4' := X2.cell 4 (u := .bool g) rfl; have x5' := X2.cell 5 (u := .string n) rfl; have x6' := X2.cell 6 (u := .slice sa sl sc) rfl; have x7' := X2.cell 7 (u := .slice (some ⟨bb, off, none⟩) nk cap) rfl; have HX2 : Hid (Bk w2 w.heap.size #[.int .i64 k, .int .i64 m, .int .i64 a, .int .i64 b, .bool g, .string n, .slice sa sl sc, .slice (some ⟨bb, off, none⟩) nk cap] 25) := X2; clear d X2) | (go_at_call 21; refine (CS.out _).mono ?_; rintro e w3 ⟨rfl, d⟩; have HG3 : Hid (Below w.heap.size w w3) := HG.out.trans (below_less d (by have := HG.out.size; omega)); have HX3 : Hid (Bk w3 w.heap.size #[.int .i64 k, .int .i64 m, .int .i64 a, .int .i64 b, .bool g, .string n, .slice sa sl sc, .slice (some ⟨bb, off, none⟩) nk cap] 25) := HX2.out.on d; clear d))
          go_roundw
          case rel => exact ⟨j + 1, Z, by omega, by go_num, rfl, HM, hz1, hz2, HG3, HX3⟩
          case measure => simp [intOf]; omega
      · have fk : (k' == 3) = false := by simpa using ck
        obtain ⟨Z, hZ⟩ : ∃ Z, max x (r) = Z := ⟨_, rfl⟩
        have hZ' : (if x < r then r else x) = Z := by rw [← hZ]; split <;> omega
        have HM : Hid (Z = depL q (ks.take (j + 1))) := by unfold Hid; rw [HN.out, ← hZ]; rw [fk]; simp
        have hz1 : 0 ≤ Z := by rw [HM.out]; exact HBM.out.1
        have hz2 : Z ≤ 100000001 := by rw [HM.out]; exact HBM.out.2
        clear HN HBM
        go_wp2_with (first | (go_at_call 16; refine C.mono ?_; rintro e w2 ⟨rfl, d⟩; have HG : Hid (Below w.heap.size w w2) := HC.out.trans (below_less d (by have := HC.out.size; omega)); have y0 := (HY.out.on d).cell 0 (u := .int .i64 k') rfl; have X2 := HX1.out.on d; have x0' := X2.cell 0 (u := .int .i64 k) rfl; have x1' := X2.cell 1 (u := .int .i64 m) rfl; have x2' := X2.cell 2 (u := .int .i64 a) rfl; have x3' := X2.cell 3 (u := .int .i64 b) rfl; have x4' := X2.cell 4 (u := .bool g) rfl; have x5' := X2.cell 5 (u := .string n) rfl; have x6' := X2.cell 6 (u := .slice sa sl sc) rfl; have x7' := X2.cell 7 (u := .slice (some ⟨bb, off, none⟩) nk cap) rfl; have HX2 : Hid (Bk w2 w.heap.size #[.int .i64 k, .int .i64 m, .int .i64 a, .int .i64 b, .bool g, .string n, .slice sa sl sc, .slice (some ⟨bb, off, none⟩) nk cap] 25) := X2; clear d X2))
        go_roundw
        case rel => exact ⟨j + 1, Z, by omega, by go_num, rfl, HM, hz1, hz2, HG, HX2⟩
        case measure => simp [intOf]; omega
    · have HF : Hid (x = depL q ks) := by
        unfold Hid; rw [HE.out, List.take_of_length_le (by have := HL.out; omega)]
      have x0 := HXr.out.cell 0 (u := .int .i64 k) rfl
      clear HK HI HE
      by_cases c9 : k = 9
      · subst c9
        have hb : br = true := by rw [← HBR.out]; rfl
        subst hb
        go_wp2
        go_ret
        exact ⟨by rw [← HF.out]; rfl, HW.out⟩
      by_cases c10 : k = 10
      · subst c10
        have hb : br = true := by rw [← HBR.out]; rfl
        subst hb
        go_wp2
        go_ret
        exact ⟨by rw [← HF.out]; rfl, HW.out⟩
      by_cases c11 : k = 11
      · subst c11
        have hb : br = true := by rw [← HBR.out]; rfl
        subst hb
        go_wp2
        go_ret
        exact ⟨by rw [← HF.out]; rfl, HW.out⟩
      by_cases c3 : k = 3
      · subst c3
        have hb : br = true := by rw [← HBR.out]; rfl
        subst hb
        go_wp2
        go_ret
        exact ⟨by rw [← HF.out]; rfl, HW.out⟩
      have f9 : (k == 9) = false := by simpa using c9
      have f10 : (k == 10) = false := by simpa using c10
      have f11 : (k == 11) = false := by simpa using c11
      have f3 : (k == 3) = false := by simpa using c3
      have hb : br = false := by rw [← HBR.out]; unfold brack; rw [f9, f10, f11, f3]; rfl
      subst hb
      clear c9 c10 c11 c3
      go_wp2
      go_ret
      exact ⟨by rw [← HF.out]; exact ret_int (by simp), HW.out⟩
theorem depth_any : ∀ (N : Nat) (t : Nd) (v : Value) (w : World), t.sz ≤ N → t.sz ≤ 100000000 → NV w.heap.size w t v → Calls Tryz.prog 16 #[v] w fun e w' => e = .returned (.int .i64 (depN t)) ∧ Below w.heap.size w w' := by
  intro N
  induction N with
  | zero => intro t v w h; obtain ⟨k, m, a, b, g, n, st, ks⟩ := t; rw [Nd.sz] at h; omega
  | succ N ih =>
    intro t v w hN hN2 hv
    obtain ⟨k, m, a, b, g, n, st, ks, sa, sc, ao, cap, rfl, rfl, _, _, _, hk1, hk2, _, hkv⟩ := hv.open
    rw [Nd.sz] at hN hN2
    have hl := len_szL ks
    have HI : Hid (∀ (t : Nd) (v : Value) (W : World), t ∈ ks → NV W.heap.size W t v → Calls Tryz.prog 16 #[v] W fun e w' => e = .returned (.int .i64 (depN t)) ∧ Below W.heap.size W w') := fun t v W hm hv => by
      have := szL_mem hm
      exact ih t v W (by omega) (by omega) hv
    obtain ⟨nk, hnk⟩ : ∃ nk, ks.length = nk := ⟨_, rfl⟩
    rw [hnk]
    rw [hnk] at hk1 hl
    rw [depN]
    exact depth_step k m a b g n ks sa _ sc ao nk cap w hnk (by omega) (by omega) hk1 hkv HI _ rfl _ rfl
end Go.Proofs.YtbdediacfckpcaaGreatDoor.tre
end

section
/- othersZero and others at the nodes of one small tree. -/
set_option linter.unusedVariables false
set_option linter.unusedSimpArgs false
namespace Go.Proofs.YtbdediacfckpcaaGreatDoor.tre
open Go.RowKit nod
open Go.Proofs.YtbdediacfckpcaaGreatDoor.rng (R RV ret_int ret_bool below_drewN info_parts own_below')
open Go.Proofs.YtbdediacfckpcaaGreatDoor.tok (PEnv TX printL)

/-- The writer, its room, the tables. -/
structure Ctx (w0 W : World) (base g : Nat) (s : Wr) : Prop where
  env : PEnv w0
  hb : base = w0.heap.size
  bel : Below base w0 W
  wr : WrAt W base g s
  r0 : 0 ≤ s.room
  r1 : s.text.length + s.room ≤ 2000
theorem Ctx.penv {w0 W : World} {base g : Nat} {s : Wr} (c : Ctx w0 W base g s) : PEnv W := c.env.below (c.hb ▸ c.bel)
theorem Ctx.size {w0 W : World} {base g : Nat} {s : Wr} (c : Ctx w0 W base g s) : base ≤ W.heap.size := by have := c.bel.size; rw [c.hb] at *; exact this
theorem Ctx.on {w0 W W' : World} {base g : Nat} {s : Wr} (c : Ctx w0 W base g s) (h : Below W.heap.size W W') : Ctx w0 W' base g s :=
  ⟨c.env, c.hb, c.bel.trans (below_less h c.size), c.wr.on h, c.r0, c.r1⟩
theorem Ctx.to {w0 W W' : World} {base g : Nat} {s s' : Wr} (c : Ctx w0 W base g s) (k : Kt base W W') (h : WrAt W' base g s') (h0 : 0 ≤ s'.room) (h1 : s'.text.length + s'.room ≤ 2000) : Ctx w0 W' base g s' :=
  ⟨c.env, c.hb, c.bel.trans k.below, h, h0, h1⟩
/-- A text for which there is room is written. -/
theorem putP_ok {s : Wr} {t : ByteArray} (h1 : t.size ≠ 0) (h2 : 0 ≤ s.room - t.size) : putP s t = ((s.less t.size).add t, true) := by unfold putP; rw [if_neg h1, if_pos h2]
theorem nodeT : (25 : TypeId) ≠ 52 ∧ (25 : TypeId) ≠ 5 ∧ (25 : TypeId) ≠ 9 := by decide

end Go.Proofs.YtbdediacfckpcaaGreatDoor.tre
end

section
/- The writer of a tree's pattern as plain functions, and what they keep. -/
set_option linter.unusedVariables false
set_option linter.unusedSimpArgs false
namespace Go.Proofs.YtbdediacfckpcaaGreatDoor.tre
open Go.RowKit nod
open Go.Proofs.YtbdediacfckpcaaGreatDoor.rng (R RV)
open Go.Proofs.YtbdediacfckpcaaGreatDoor.tok (PEnv TX printL)

/-! Names are short enough to be put between brackets. -/
mutual
def shortN : Nd → Prop
  | .mk _ _ _ _ _ n _ ks => n.size ≤ 140737488355327 ∧ shortL ks
def shortL : List Nd → Prop
  | [] => True
  | t :: ts => shortN t ∧ shortL ts
end
theorem short_mem {t : Nd} : ∀ {ks : List Nd}, shortL ks → t ∈ ks → shortN t
  | [], _, h => by cases h
  | x :: ks, hs, h => by
    rw [shortL] at hs
    rcases List.mem_cons.1 h with rfl | h
    · exact hs.1
    · exact short_mem hs.2 h

/-! A string's bytes. -/
def sfB (X : ByteArray) : Nat → Int := fun i => ((X.data.toList.getD i 0).toNat : Int)
theorem sfB_in (X : ByteArray) : ∀ i, 0 ≤ sfB X i ∧ sfB X i ≤ 255 := fun i => by
  unfold sfB
  have := UInt8.toNat_lt (X.data.toList.getD i 0)
  omega
/-- A text is one token of that name. -/
def namedB (t n : ByteArray) : Bool := (tok.scanL (sfB t) t.size).2.1 == 0 && decide ((tok.scanL (sfB t) t.size).1.map (fun k => lin.BA k.name) = [n])

/-! Texts. -/
def dec (n : Int) : ByteArray := ⟨(Lib.itoa n).toArray⟩
def timesT (a b : Int) : ByteArray :=
  if a < 0 ∨ (b ≠ -1 ∧ b < a) ∨ 100 < max a b then ByteArray.empty
  else if a = 0 ∧ b = -1 then ⟨#[42]⟩
  else if a = 1 ∧ b = -1 then ⟨#[43]⟩
  else if a = 0 ∧ b = 1 then ⟨#[63]⟩
  else if a = b then (⟨#[123]⟩ ++ dec a) ++ ⟨#[125]⟩
  else if b = -1 then (⟨#[123]⟩ ++ dec a) ++ ⟨#[44, 125]⟩
  else (((⟨#[123]⟩ ++ dec a) ++ ⟨#[44]⟩) ++ dec b) ++ ⟨#[125]⟩
def propT (n : ByteArray) (neg : Bool) : ByteArray :=
  if n = ⟨#[100]⟩ then (if neg then ⟨#[92, 68]⟩ else ⟨#[92, 100]⟩)
  else if n = ⟨#[119]⟩ then (if neg then ⟨#[92, 87]⟩ else ⟨#[92, 119]⟩)
  else if n = ⟨#[115]⟩ then (if neg then ⟨#[92, 83]⟩ else ⟨#[92, 115]⟩)
  else if neg then (⟨#[92, 80, 123]⟩ ++ n) ++ ⟨#[125]⟩ else (⟨#[92, 112, 123]⟩ ++ n) ++ ⟨#[125]⟩
def openC (neg : Bool) : ByteArray := if neg then ⟨#[91, 94]⟩ else ⟨#[91]⟩
def openN (n : ByteArray) : ByteArray := (⟨#[40, 63, 60]⟩ ++ n) ++ ⟨#[62]⟩
def backT (a : Int) : ByteArray := (⟨#[92, 107, 123]⟩ ++ dec a) ++ ⟨#[125]⟩
def lookTexts : List ByteArray := [⟨#[40, 63, 61]⟩, ⟨#[40, 63, 33]⟩, ⟨#[40, 63, 60, 61]⟩, ⟨#[40, 63, 60, 33]⟩]
def asrtTexts : List ByteArray := [ByteArray.empty, ⟨#[94]⟩, ⟨#[36]⟩, ⟨#[92, 65]⟩, ⟨#[92, 122]⟩, ⟨#[92, 98]⟩, ⟨#[92, 66]⟩, ⟨#[92, 98, 123, 103, 125]⟩, ⟨#[92, 66, 123, 103, 125]⟩, ⟨#[92, 98, 123, 119, 125]⟩, ⟨#[92, 66, 123, 119, 125]⟩]
def modeTexts : List ByteArray := [ByteArray.empty, ⟨#[63]⟩, ⟨#[43]⟩]

/-! The writer's methods: what is written, if all may be. -/
def putO (s : Wr) (t : ByteArray) : Option Wr := if t.size = 0 then none else if 0 ≤ s.room - t.size then some ((s.less t.size).add t) else none
def enterO (s : Wr) (t : ByteArray) : Option Wr := if s.depth + 1 ≤ 50 then putO (s.deep 1) t else none
def leaveO (s : Wr) (t : ByteArray) : Option Wr := putO (s.deep (-1)) t
def propO (s : Wr) (n : ByteArray) (neg : Bool) : Option Wr := if namedB (propT n neg) n then putO s (propT n neg) else none
def sideB : Nd → Bool
  | .mk k m a b g n st ks => k == 3 && !g && othersZ (.mk k m a b g n st ks)
def loopO (f : Wr → Nd → Option Wr) : List Nd → Wr → Option Wr
  | [], s => some s
  | t :: ts, s => (f s t).bind (loopO f ts)
def classO (ins : Wr → Nd → Option Wr) (s : Wr) (t : Nd) : Option Wr := (enterO s (openC t.neg)).bind fun s1 => (ins s1 t).bind fun s2 => leaveO s2 ⟨#[93]⟩
def rangeO (s : Wr) (a b : Int) : Option Wr := if a ≤ b then (putO s (TX (printL a true))).bind fun s1 => (putO s1 ⟨#[45]⟩).bind fun s2 => putO s2 (TX (printL b true)) else none
def memberO (ins : Wr → Nd → Option Wr) (s : Wr) (t : Nd) : Option Wr :=
  if othersZ t = false then none
  else if t.kind = 1 then putO s (TX (printL t.a true))
  else if t.kind = 4 then rangeO s t.a t.b
  else if t.kind = 5 then propO s t.name t.neg
  else if t.kind = 3 then classO ins s t
  else none
def sidesO (ins : Wr → Nd → Option Wr) (s : Wr) (m : Int) : List Nd → Option Wr
  | [l, r] => if sideB l = true ∧ sideB r = true ∧ r.mode = 0 ∧ 0 ≤ s.room - 2 then (ins (s.less 2) l).bind fun s1 => ins (s1.add (textP m opTexts)) r else none
  | _ => none
def insideO : Nat → Wr → Nd → Option Wr
  | 0, _, _ => none
  | N + 1, s, t => if t.mode = 0 then (if t.kids.length = 0 then none else loopO (memberO (insideO N)) t.kids s) else if t.mode = 1 ∨ t.mode = 2 ∨ t.mode = 3 then sidesO (insideO N) s t.mode t.kids else none
def repB (k : Int) : Bool := k == 1 || k == 2 || k == 3 || k == 5 || k == 9 || k == 11 || k == 13 || k == 14
def seqO (pt : Wr → Nd → Option Wr) (s : Wr) (t : Nd) : Option Wr := if t.kind = 6 ∧ othersZ t = true then loopO pt t.kids s else none
def barO (pt : Wr → Nd → Option Wr) (s : Wr) (t : Nd) : Option Wr := (putO s ⟨#[124]⟩).bind fun s1 => seqO pt s1 t
def altO (pt : Wr → Nd → Option Wr) (s : Wr) (t : Nd) : Option Wr :=
  if othersZ t = true ∧ 2 ≤ t.kids.length then (match t.kids with | x :: xs => (seqO pt s x).bind (loopO (barO pt) xs) | [] => none) else none
def bodyO (pt : Wr → Nd → Option Wr) (s : Wr) (t : Nd) : Option Wr := if t.kind = 6 then seqO pt s t else if t.kind = 7 then altO pt s t else none
def enclO (pt : Wr → Nd → Option Wr) (op : ByteArray) (s : Wr) : List Nd → Option Wr
  | [t] => (enterO s op).bind fun s1 => (bodyO pt s1 t).bind fun s2 => leaveO s2 ⟨#[41]⟩
  | _ => none
def Wr.grp (s : Wr) : Wr := { s with groups := s.groups + 1 }
def Wr.nam (s : Wr) (n : ByteArray) : Wr := { s with names := s.names ++ [n] }
def groupO (pt : Wr → Nd → Option Wr) (s : Wr) (t : Nd) : Option Wr :=
  if t.a = 0 ∧ t.name.size = 0 then enclO pt ⟨#[40, 63, 58]⟩ s t.kids
  else if t.a ≠ s.groups + 1 ∨ 20 < t.a then none
  else if t.name.size = 0 then enclO pt ⟨#[40]⟩ s.grp t.kids
  else if namedB (openN t.name) t.name = true ∧ Lib.containsS s.names t.name = false then enclO pt (openN t.name) (s.grp.nam t.name) t.kids
  else none
def repeatO (pt : Wr → Nd → Option Wr) (s : Wr) (t : Nd) : Option Wr :=
  match t.kids with
  | [x] => if repB x.kind = true ∧ 0 ≤ t.mode ∧ t.mode ≤ 2 ∧ (timesT t.a t.b).size ≠ 0 then (pt s x).bind fun s1 => putO s1 (timesT t.a t.b ++ textP t.mode modeTexts) else none
  | _ => none
def partO : Nat → Wr → Nd → Option Wr
  | 0, _, _ => none
  | N + 1, s, t =>
    if othersZ t = false then none
    else if t.kind = 1 then putO s (TX (printL t.a false))
    else if t.kind = 2 then putO s ⟨#[46]⟩
    else if t.kind = 3 then classO (insideO N) s t
    else if t.kind = 5 then propO s t.name t.neg
    else if t.kind = 8 then repeatO (partO N) s t
    else if t.kind = 9 then groupO (partO N) s t
    else if t.kind = 10 then enclO (partO N) (textP t.mode lookTexts) s t.kids
    else if t.kind = 11 then enclO (partO N) ⟨#[40, 63, 62]⟩ s t.kids
    else if t.kind = 12 then putO s (textP t.mode asrtTexts)
    else if t.kind = 13 then (if 0 < t.a ∧ t.a ≤ s.groups then putO s (backT t.a) else none)
    else if t.kind = 14 then putO s ⟨#[92, 88]⟩
    else none
def w00 : Wr := ⟨[], 2000, 0, 0, []⟩
/-- A tree's pattern, if it is one. -/
def patO (N : Nat) (t : Nd) : Option (List UInt8) := (bodyO (partO N) w00 t).map (·.text)

/-! What holds while a writer still may be one. -/
structure Gd (s : Wr) : Prop where
  g : Good s
  n : (s.names.length : Int) ≤ s.groups
/-- From s to s' something was written, of so many groups, so deep. -/
structure Run (s s' : Wr) (gr dp : Int) : Prop where
  gd : Gd s'
  sum : (s'.text.length : Int) + s'.room = s.text.length + s.room
  dep : s'.depth = s.depth
  grp : s'.groups = s.groups + gr
  low : s.depth + dp ≤ 50
theorem Run.refl {s : Wr} (h : Gd s) : Run s s 0 0 := ⟨h, rfl, rfl, by omega, by have := h.g.d1; omega⟩
theorem Run.trans {a b c : Wr} {g1 g2 d1 d2 : Int} (h : Run a b g1 d1) (k : Run b c g2 d2) : Run a c (g1 + g2) (max d1 d2) :=
  ⟨k.gd, k.sum.trans h.sum, k.dep.trans h.dep, by have := h.grp; have := k.grp; omega, by have := h.low; have := k.low; have := h.dep; omega⟩
theorem Run.to {a b : Wr} {g d g' d' : Int} (h : Run a b g d) (hg : g = g') (hd : d' ≤ d) : Run a b g' d' :=
  ⟨h.gd, h.sum, h.dep, by rw [← hg]; exact h.grp, by have := h.low; omega⟩
theorem add_len (s : Wr) (t : ByteArray) : ((s.add t).text.length : Int) = s.text.length + t.size := by simp [Wr.add]
theorem putO_some {s s' : Wr} {t : ByteArray} (h : putO s t = some s') : s' = (s.less t.size).add t ∧ (t.size : Int) ≤ s.room := by
  unfold putO at h
  split at h
  · cases h
  · split at h
    · cases h; exact ⟨rfl, by omega⟩
    · cases h
theorem put_run {s s' : Wr} {t : ByteArray} (h : putO s t = some s') (g : Gd s) : Run s s' 0 0 := by
  obtain ⟨rfl, hr⟩ := putO_some h
  obtain ⟨⟨r0, r1, d0, d1, g0, g1, n1⟩, n⟩ := g
  have hl := add_len (s.less t.size) t
  have e : (s.less t.size).text = s.text := rfl
  rw [e] at hl
  have e2 : ((s.less t.size).add t).room = s.room - t.size := rfl
  exact ⟨⟨⟨by rw [e2]; omega, by rw [hl, e2]; omega, d0, d1, g0, g1, n1⟩, n⟩, by rw [hl, e2]; omega, rfl, by show s.groups = _; omega, by omega⟩
theorem enterO_some {s s' : Wr} {t : ByteArray} (h : enterO s t = some s') : s.depth + 1 ≤ 50 ∧ putO (s.deep 1) t = some s' := by
  unfold enterO at h
  split at h
  · exact ⟨by assumption, h⟩
  · cases h
theorem deep_gd {s : Wr} (g : Gd s) (k : Int) (h0 : 0 ≤ s.depth + k) (h1 : s.depth + k ≤ 50) : Gd (s.deep k) := by
  obtain ⟨⟨r0, r1, d0, d1, g0, g1, n1⟩, n⟩ := g
  exact ⟨⟨r0, r1, h0, h1, g0, g1, n1⟩, n⟩
theorem enter_gd {s s' : Wr} {t : ByteArray} (h : enterO s t = some s') (g : Gd s) : Gd s' ∧ s'.depth = s.depth + 1 := by
  obtain ⟨h1, h2⟩ := enterO_some h
  have r := put_run h2 (deep_gd g 1 (by have := g.g.d0; omega) h1)
  exact ⟨r.gd, r.dep⟩
/-- Brackets around what was written. -/
theorem brack_run {s s1 s2 s3 : Wr} {o c : ByteArray} {gr dp : Int} (h1 : enterO s o = some s1) (h2 : Run s1 s2 gr dp) (h3 : leaveO s2 c = some s3) (g : Gd s) : Run s s3 gr (dp + 1) := by
  obtain ⟨a1, a2⟩ := enterO_some h1
  have r1 := put_run a2 (deep_gd g 1 (by have := g.g.d0; omega) a1)
  have d2 : s2.depth = s.depth + 1 := h2.dep.trans r1.dep
  have r3 := put_run h3 (deep_gd h2.gd (-1) (by have := g.g.d0; omega) (by have := g.g.d1; omega))
  refine ⟨r3.gd, ?_, ?_, ?_, ?_⟩
  · have := r1.sum; have := h2.sum; have := r3.sum
    have e1 : ((s.deep 1).text.length : Int) + (s.deep 1).room = s.text.length + s.room := rfl
    have e2 : ((s2.deep (-1)).text.length : Int) + (s2.deep (-1)).room = s2.text.length + s2.room := rfl
    omega
  · have := r3.dep; have e : (s2.deep (-1)).depth = s2.depth + -1 := rfl; omega
  · have := r1.grp; have := h2.grp; have := r3.grp
    have e1 : (s.deep 1).groups = s.groups := rfl
    have e2 : (s2.deep (-1)).groups = s2.groups := rfl
    omega
  · have := h2.low; have := r1.dep; have e : (s.deep 1).depth = s.depth + 1 := rfl; omega
theorem bind_some {α β : Type} {x : Option α} {f : α → Option β} {y : β} (h : x.bind f = some y) : ∃ a, x = some a ∧ f a = some y := Option.bind_eq_some_iff.1 h
/-- A node whose kind has no kids has none. -/
theorem no_kids {t : Nd} (h : othersZ t = true) (hk : may t.kind 32 = false) : t.kids = [] := by
  obtain ⟨k, m, a, b, g, n, s, ks⟩ := t
  simp only [othersZ, Nd.kind, Bool.and_eq_true, Bool.or_eq_true] at h hk
  obtain ⟨_, h⟩ := h
  rw [hk] at h
  rcases h with h | h
  · simpa [Nd.kids] using h
  · cases h
theorem leaf_zero {t : Nd} (h : t.kids = []) (h1 : t.kind ≠ 9) (h2 : brack t.kind = false) : grpN t = 0 ∧ depN t = 0 := by
  obtain ⟨k, m, a, b, g, n, s, ks⟩ := t
  simp only [Nd.kids, Nd.kind] at h h1 h2
  subst h
  rw [grpN, depN, grpL, depL, h2, if_neg (fun e => h1 e.1)]
  simp
theorem loop_run {f : Wr → Nd → Option Wr} {gr dp : Nd → Int} (hf : ∀ t s s', f s t = some s' → Gd s → Run s s' (gr t) (dp t)) : ∀ (ts : List Nd) (s s' : Wr), loopO f ts s = some s' → Gd s → ∃ G D, Run s s' G D ∧ G = (ts.map gr).sum ∧ 0 ≤ D ∧ ∀ t ∈ ts, dp t ≤ D
  | [], s, s', h, g => by
    rw [loopO] at h; cases h
    exact ⟨0, 0, Run.refl g, by simp, by omega, fun t ht => by cases ht⟩
  | t :: ts, s, s', h, g => by
    rw [loopO] at h
    obtain ⟨s1, h1, h2⟩ := bind_some h
    have r1 := hf t s s1 h1 g
    obtain ⟨G, D, r2, hG, h0, hD⟩ := loop_run hf ts s1 s' h2 r1.gd
    refine ⟨_, _, r1.trans r2, by rw [hG]; simp, by omega, fun x hx => ?_⟩
    rcases List.mem_cons.1 hx with rfl | hx
    · omega
    · have := hD x hx; omega
theorem grpL_sum : ∀ ks : List Nd, grpL ks = (ks.map grpN).sum
  | [] => by simp [grpL]
  | t :: ts => by rw [grpL, grpL_sum ts]; simp
theorem depL_le (q : Bool) (D : Int) (h0 : 0 ≤ D) : ∀ ks : List Nd, (∀ t ∈ ks, depN t - (if t.kind == 3 && q then 1 else 0) ≤ D) → depL q ks ≤ D
  | [], _ => by rw [depL]; exact h0
  | t :: ts, h => by
    rw [depL]
    have := h t (by simp)
    have := depL_le q D h0 ts (fun x hx => h x (by simp [hx]))
    omega
end Go.Proofs.YtbdediacfckpcaaGreatDoor.tre
end

section
/- What the plain writer keeps: groups, depth, room. -/
set_option linter.unusedVariables false
set_option linter.unusedSimpArgs false
namespace Go.Proofs.YtbdediacfckpcaaGreatDoor.tre
open Go.RowKit nod
open Go.Proofs.YtbdediacfckpcaaGreatDoor.rng (R RV)
open Go.Proofs.YtbdediacfckpcaaGreatDoor.tok (PEnv TX printL)

theorem opSize {m : Int} (h : m = 1 ∨ m = 2 ∨ m = 3) : (textP m opTexts).size = 2 := by
  rcases h with rfl | rfl | rfl <;> decide
theorem dep3 {t : Nd} (h : t.kind = 3) : depN t = depL (sided 3 t.mode) t.kids + 1 ∧ grpN t = grpL t.kids := by
  obtain ⟨k, m, a, b, g, n, s, ks⟩ := t
  simp only [Nd.kind] at h
  subst h
  rw [depN, grpN, show brack 3 = true by decide, if_pos rfl, if_neg (by omega)]
  exact ⟨rfl, by simp [Nd.kids]⟩
/-- What inside comes to. -/
abbrev InsRun (ins : Wr → Nd → Option Wr) : Prop := ∀ t s s', ins s t = some s' → Gd s → Run s s' (grpL t.kids) (depL (sided 3 t.mode) t.kids)
theorem class_run {ins : Wr → Nd → Option Wr} (hi : InsRun ins) {s s' : Wr} {t : Nd} (h : classO ins s t = some s') (hk : t.kind = 3) (g : Gd s) : Run s s' (grpN t) (depN t) := by
  unfold classO at h
  obtain ⟨s1, h1, h⟩ := bind_some h
  obtain ⟨s2, h2, h3⟩ := bind_some h
  have e := enter_gd h1 g
  have r := brack_run h1 (hi t s1 s2 h2 e.1) h3 g
  rw [(dep3 hk).1, (dep3 hk).2]
  exact r
theorem prop_run {s s' : Wr} {n : ByteArray} {neg : Bool} (h : propO s n neg = some s') (g : Gd s) : Run s s' 0 0 := by
  unfold propO at h
  split at h
  · exact put_run h g
  · cases h
theorem range_run {s s' : Wr} {a b : Int} (h : rangeO s a b = some s') (g : Gd s) : Run s s' 0 0 := by
  unfold rangeO at h
  split at h
  · obtain ⟨s1, h1, h⟩ := bind_some h
    obtain ⟨s2, h2, h3⟩ := bind_some h
    have r1 := put_run h1 g
    have r2 := put_run h2 r1.gd
    have r3 := put_run h3 r2.gd
    exact ((r1.trans r2).trans r3).to (by omega) (by omega)
  · cases h
theorem leafRun {s s' : Wr} {t : Nd} (r : Run s s' 0 0) (h : othersZ t = true) (hk : may t.kind 32 = false) (h1 : t.kind ≠ 9) (h2 : brack t.kind = false) : Run s s' (grpN t) (depN t) := by
  obtain ⟨e1, e2⟩ := leaf_zero (no_kids h hk) h1 h2
  rw [e1, e2]; exact r
theorem member_run {ins : Wr → Nd → Option Wr} (hi : InsRun ins) (t : Nd) (s s' : Wr) (h : memberO ins s t = some s') (g : Gd s) : Run s s' (grpN t) (depN t) := by
  unfold memberO at h
  split at h
  · cases h
  have ho : othersZ t = true := by simpa using (by assumption : ¬ othersZ t = false)
  split at h
  · rename_i hk; exact leafRun (put_run h g) ho (by rw [hk]; decide +kernel) (by omega) (by rw [hk]; decide)
  split at h
  · rename_i hk; exact leafRun (range_run h g) ho (by rw [hk]; decide +kernel) (by omega) (by rw [hk]; decide)
  split at h
  · rename_i hk; exact leafRun (prop_run h g) ho (by rw [hk]; decide +kernel) (by omega) (by rw [hk]; decide)
  split at h
  · rename_i hk; exact class_run hi h hk g
  · cases h
theorem side_kind {t : Nd} (h : sideB t = true) : t.kind = 3 := by
  obtain ⟨k, m, a, b, g, n, s, ks⟩ := t
  simp only [sideB, Bool.and_eq_true, beq_iff_eq] at h
  exact h.1.1
theorem inside_run : ∀ N : Nat, InsRun (insideO N)
  | 0 => fun t s s' h _ => by rw [insideO] at h; cases h
  | N + 1 => fun t s s' h g => by
    rw [insideO] at h
    split at h
    · rename_i hm
      split at h
      · cases h
      · obtain ⟨G, D, r, hG, h0, hD⟩ := loop_run (member_run (inside_run N)) t.kids s s' h g
        rw [hm, show sided 3 0 = false by decide, grpL_sum]
        refine r.to hG (depL_le false D h0 _ fun x hx => ?_)
        have := hD x hx
        simp
        exact this
    · split at h
      · rename_i hm
        have hop := opSize hm
        have hsd : sided 3 t.mode = true := by rcases hm with h | h | h <;> rw [h] <;> decide
        rw [hsd]
        generalize t.kids = ks at *
        match ks, h with
        | [l, r], h =>
          simp only [sidesO] at h
          split at h
          · rename_i hc
            obtain ⟨c1, c2, c3, c4⟩ := hc
            obtain ⟨s1, h1, h2⟩ := bind_some h
            obtain ⟨⟨r0, r1, d0, d1, g0, g1, n1⟩, n⟩ := g
            have gl : Gd (s.less 2) := ⟨⟨by show 0 ≤ s.room - 2; omega, by show (s.text.length : Int) + (s.room - 2) ≤ 2000; omega, d0, d1, g0, g1, n1⟩, n⟩
            have q1 := inside_run N l _ _ h1 gl
            have es : (s1.text.length : Int) + s1.room = s.text.length + (s.room - 2) := q1.sum
            obtain ⟨⟨a0, a1, a2, a3, a4, a5, a6⟩, a7⟩ := q1.gd
            have al := add_len s1 (textP t.mode opTexts)
            have er : (s1.add (textP t.mode opTexts)).room = s1.room := rfl
            have gr : Gd (s1.add (textP t.mode opTexts)) := ⟨⟨a0, by rw [al, er]; omega, a2, a3, a4, a5, a6⟩, a7⟩
            have q2 := inside_run N r _ _ h2 gr
            have el := dep3 (side_kind c1)
            have e2 := dep3 (side_kind c2)
            refine ⟨q2.gd, ?_, ?_, ?_, ?_⟩
            · have := q2.sum; rw [al, er] at this; omega
            · exact q2.dep.trans q1.dep
            · have h1 := q2.grp; have h2 := q1.grp
              have e : (s1.add (textP t.mode opTexts)).groups = s1.groups := rfl
              have e' : (s.less 2).groups = s.groups := rfl
              rw [grpL, grpL, grpL, el.2, e2.2]; omega
            · have h1 := q2.low; have h2 := q1.low; have h3 := q1.dep
              have e : (s1.add (textP t.mode opTexts)).depth = s1.depth := rfl
              have e' : (s.less 2).depth = s.depth := rfl
              rw [depL, depL, depL, el.1, e2.1, side_kind c1, side_kind c2]
              simp
              omega
          · cases h
      · cases h
/-- What part comes to. -/
abbrev PartRun (pt : Wr → Nd → Option Wr) : Prop := ∀ t s s', pt s t = some s' → Gd s → Run s s' (grpN t) (depN t)
theorem flat_dep {t : Nd} {D : Int} (hk : t.kind = 6 ∨ t.kind = 7) (h0 : 0 ≤ D) (h : ∀ x ∈ t.kids, depN x ≤ D) : depN t ≤ D ∧ grpN t = (t.kids.map grpN).sum := by
  obtain ⟨k, m, a, b, g, n, s, ks⟩ := t
  simp only [Nd.kind, Nd.kids] at hk h ⊢
  rw [depN, grpN, show brack k = false by rcases hk with rfl | rfl <;> decide, if_neg (by decide), if_neg (by omega), grpL_sum, show sided k m = false by rcases hk with rfl | rfl <;> rfl]
  have := depL_le false D h0 ks (fun x hx => by have := h x hx; simp; exact this)
  exact ⟨by omega, by omega⟩
theorem seq_run {pt : Wr → Nd → Option Wr} (hp : PartRun pt) {s s' : Wr} {t : Nd} (h : seqO pt s t = some s') (g : Gd s) : Run s s' (grpN t) (depN t) := by
  unfold seqO at h
  split at h
  · rename_i hk
    obtain ⟨G, D, r, hG, h0, hD⟩ := loop_run hp t.kids s s' h g
    obtain ⟨e1, e2⟩ := flat_dep (.inl hk.1) h0 hD
    exact r.to (by rw [hG, e2]) e1
  · cases h
theorem bar_run {pt : Wr → Nd → Option Wr} (hp : PartRun pt) (t : Nd) (s s' : Wr) (h : barO pt s t = some s') (g : Gd s) : Run s s' (grpN t) (depN t) := by
  unfold barO at h
  obtain ⟨s1, h1, h2⟩ := bind_some h
  have r1 := put_run h1 g
  exact (r1.trans (seq_run hp h2 r1.gd)).to (by omega) (by omega)
theorem body_run {pt : Wr → Nd → Option Wr} (hp : PartRun pt) {s s' : Wr} {t : Nd} (h : bodyO pt s t = some s') (g : Gd s) : Run s s' (grpN t) (depN t) := by
  unfold bodyO at h
  split at h
  · exact seq_run hp h g
  split at h
  · rename_i hk
    unfold altO at h
    split at h
    · split at h
      · rename_i x xs hks
        obtain ⟨s1, h1, h2⟩ := bind_some h
        have r1 := seq_run hp h1 g
        obtain ⟨G, D, r, hG, h0, hD⟩ := loop_run (bar_run hp) xs s1 s' h2 r1.gd
        obtain ⟨e1, e2⟩ := flat_dep (t := t) (D := max (depN x) D) (.inr hk) (by omega) (by
          rw [hks]
          intro y hy
          rcases List.mem_cons.1 hy with rfl | hy
          · omega
          · have := hD y hy; omega)
        exact (r1.trans r).to (by rw [e2, hks, hG]; simp) e1
      · cases h
    · cases h
  · cases h
theorem encl_run {pt : Wr → Nd → Option Wr} (hp : PartRun pt) {s s' : Wr} {op : ByteArray} {ks : List Nd} (h : enclO pt op s ks = some s') (g : Gd s) : ∃ t, ks = [t] ∧ Run s s' (grpN t) (depN t + 1) := by
  match ks, h with
  | [t], h =>
    simp only [enclO] at h
    obtain ⟨s1, h1, h⟩ := bind_some h
    obtain ⟨s2, h2, h3⟩ := bind_some h
    have e := enter_gd h1 g
    exact ⟨t, rfl, brack_run h1 (body_run hp h2 e.1) h3 g⟩
theorem one_kid {t x : Nd} (hk : t.kids = [x]) : grpN t = (if t.kind = 9 ∧ 0 < t.a then 1 else 0) + grpN x ∧ depN t ≤ depN x + (if brack t.kind = true then 1 else 0) := by
  obtain ⟨k, m, a, b, g, n, s, ks⟩ := t
  simp only [Nd.kids] at hk
  subst hk
  have := dep_bounds _ x (Nat.le_refl _)
  rw [grpN, depN, grpL, grpL, depL, depL]
  show (if k = 9 ∧ 0 < a then 1 else 0) + (grpN x + 0) = (if k = 9 ∧ 0 < a then 1 else 0) + grpN x ∧ max (depN x - if (x.kind == 3 && sided k m) = true then 1 else 0) 0 + (if brack k = true then 1 else 0) ≤ depN x + (if brack k = true then 1 else 0)
  refine ⟨by omega, ?_⟩
  generalize (if brack k = true then (1 : Int) else 0) = u
  obtain ⟨v, hv⟩ : ∃ v, (if (x.kind == 3 && sided k m) = true then (1 : Int) else 0) = v := ⟨_, rfl⟩
  rw [hv]
  have : 0 ≤ v := by rw [← hv]; split <;> omega
  omega
theorem grp_gd {s : Wr} (g : Gd s) (h : s.groups + 1 ≤ 20) : Gd s.grp := by
  obtain ⟨⟨r0, r1, d0, d1, g0, g1, n1⟩, n⟩ := g
  exact ⟨⟨r0, r1, d0, d1, by show 0 ≤ s.groups + 1; omega, h, n1⟩, by show (s.names.length : Int) ≤ s.groups + 1; omega⟩
theorem nam_gd {s : Wr} (g : Gd s) (h : s.groups + 1 ≤ 20) (n : ByteArray) : Gd (s.grp.nam n) := by
  obtain ⟨⟨r0, r1, d0, d1, g0, g1, n1⟩, hn⟩ := g
  have e : (s.grp.nam n).names.length = s.names.length + 1 := by simp [Wr.nam, Wr.grp]
  exact ⟨⟨r0, r1, d0, d1, by show 0 ≤ s.groups + 1; omega, h, by rw [e]; omega⟩, by rw [e]; show ((s.names.length + 1 : Nat) : Int) ≤ s.groups + 1; omega⟩
theorem Run.from {a a' b : Wr} {g d k : Int} (h : Run a' b g d) (e1 : (a'.text.length : Int) + a'.room = a.text.length + a.room) (e2 : a'.depth = a.depth) (e3 : a'.groups = a.groups + k) : Run a b (k + g) d :=
  ⟨h.gd, h.sum.trans e1, h.dep.trans e2, by have := h.grp; omega, by have := h.low; omega⟩
theorem group_run {pt : Wr → Nd → Option Wr} (hp : PartRun pt) {s s' : Wr} {t : Nd} (hk : t.kind = 9) (h : groupO pt s t = some s') (g : Gd s) : Run s s' (grpN t) (depN t) := by
  have hb : brack t.kind = true := by rw [hk]; decide
  unfold groupO at h
  split at h
  · rename_i hc
    obtain ⟨x, hx, r⟩ := encl_run hp h g
    obtain ⟨e1, e2⟩ := one_kid hx
    rw [if_neg (by omega)] at e1
    rw [if_pos hb] at e2
    exact r.to (by omega) e2
  split at h
  · cases h
  rename_i hc hd
  have ha : t.a = s.groups + 1 ∧ t.a ≤ 20 := by omega
  have h0 := g.g.g0
  split at h
  · obtain ⟨x, hx, r⟩ := encl_run hp h (grp_gd g (by omega))
    obtain ⟨e1, e2⟩ := one_kid hx
    rw [if_pos ⟨hk, by omega⟩] at e1
    rw [if_pos hb] at e2
    exact (Run.from (a := s) (k := 1) r rfl rfl rfl).to (by omega) e2
  split at h
  · obtain ⟨x, hx, r⟩ := encl_run hp h (nam_gd g (by omega) _)
    obtain ⟨e1, e2⟩ := one_kid hx
    rw [if_pos ⟨hk, by omega⟩] at e1
    rw [if_pos hb] at e2
    exact (Run.from (a := s) (k := 1) r rfl rfl rfl).to (by omega) e2
  · cases h
theorem repeat_run {pt : Wr → Nd → Option Wr} (hp : PartRun pt) {s s' : Wr} {t : Nd} (hk : t.kind = 8) (h : repeatO pt s t = some s') (g : Gd s) : Run s s' (grpN t) (depN t) := by
  unfold repeatO at h
  split at h
  · rename_i x hx
    split at h
    · obtain ⟨s1, h1, h2⟩ := bind_some h
      have r1 := hp x s s1 h1 g
      have r2 := put_run h2 r1.gd
      obtain ⟨e1, e2⟩ := one_kid hx
      rw [if_neg (by omega)] at e1
      rw [hk, if_neg (by decide)] at e2
      exact (r1.trans r2).to (by omega) (by omega)
    · cases h
  · cases h
theorem part_run : ∀ N : Nat, PartRun (partO N)
  | 0 => fun t s s' h _ => by rw [partO] at h; cases h
  | N + 1 => fun t s s' h g => by
    rw [partO] at h
    by_cases hz : othersZ t = false
    · rw [if_pos hz] at h; cases h
    rw [if_neg hz] at h
    have ho : othersZ t = true := by simpa using hz
    clear hz
    by_cases hk : t.kind = 1
    · rw [if_pos hk] at h
      exact leafRun (put_run h g) ho (by rw [hk]; decide +kernel) (by omega) (by rw [hk]; decide)
    rw [if_neg hk] at h
    clear hk
    by_cases hk : t.kind = 2
    · rw [if_pos hk] at h
      exact leafRun (put_run h g) ho (by rw [hk]; decide +kernel) (by omega) (by rw [hk]; decide)
    rw [if_neg hk] at h
    clear hk
    by_cases hk : t.kind = 3
    · rw [if_pos hk] at h
      exact class_run (inside_run N) h hk g
    rw [if_neg hk] at h
    clear hk
    by_cases hk : t.kind = 5
    · rw [if_pos hk] at h
      exact leafRun (prop_run h g) ho (by rw [hk]; decide +kernel) (by omega) (by rw [hk]; decide)
    rw [if_neg hk] at h
    clear hk
    by_cases hk : t.kind = 8
    · rw [if_pos hk] at h
      exact repeat_run (part_run N) hk h g
    rw [if_neg hk] at h
    clear hk
    by_cases hk : t.kind = 9
    · rw [if_pos hk] at h
      exact group_run (part_run N) hk h g
    rw [if_neg hk] at h
    clear hk
    by_cases hk : t.kind = 10
    · rw [if_pos hk] at h
      obtain ⟨x, hx, r⟩ := encl_run (part_run N) h g
      obtain ⟨e1, e2⟩ := one_kid hx
      rw [if_neg (by omega)] at e1
      rw [hk, if_pos (by decide)] at e2
      exact r.to (by omega) e2
    rw [if_neg hk] at h
    clear hk
    by_cases hk : t.kind = 11
    · rw [if_pos hk] at h
      obtain ⟨x, hx, r⟩ := encl_run (part_run N) h g
      obtain ⟨e1, e2⟩ := one_kid hx
      rw [if_neg (by omega)] at e1
      rw [hk, if_pos (by decide)] at e2
      exact r.to (by omega) e2
    rw [if_neg hk] at h
    clear hk
    by_cases hk : t.kind = 12
    · rw [if_pos hk] at h
      exact leafRun (put_run h g) ho (by rw [hk]; decide +kernel) (by omega) (by rw [hk]; decide)
    rw [if_neg hk] at h
    clear hk
    by_cases hk : t.kind = 13
    · rw [if_pos hk] at h
      by_cases hc : 0 < t.a ∧ t.a ≤ s.groups
      · rw [if_pos hc] at h
        exact leafRun (put_run h g) ho (by rw [hk]; decide +kernel) (by omega) (by rw [hk]; decide)
      · rw [if_neg hc] at h; cases h
    rw [if_neg hk] at h
    clear hk
    by_cases hk : t.kind = 14
    · rw [if_pos hk] at h
      exact leafRun (put_run h g) ho (by rw [hk]; decide +kernel) (by omega) (by rw [hk]; decide)
    rw [if_neg hk] at h
    clear hk
    cases h
theorem gd00 : Gd w00 := ⟨⟨by decide, by decide, by decide, by decide, by decide, by decide, by decide⟩, by decide⟩
/-- A tree's pattern is not too long, it has not too many groups, it is not too deep. -/
theorem pat_bounds {N : Nat} {t : Nd} {l : List UInt8} (h : patO N t = some l) : l.length ≤ 2000 ∧ grpN t ≤ 20 ∧ depN t ≤ 50 := by
  unfold patO at h
  obtain ⟨s', h1, rfl⟩ := Option.map_eq_some_iff.1 h
  have r := body_run (part_run N) h1 gd00
  have e1 : (s'.text.length : Int) + s'.room = 2000 := r.sum
  have e2 : s'.groups = 0 + grpN t := r.grp
  have e3 : (0 : Int) + depN t ≤ 50 := r.low
  have := r.gd.g.r0
  have := r.gd.g.g1
  omega
end Go.Proofs.YtbdediacfckpcaaGreatDoor.tre
end

section
/- othersZero of package tree at any node. -/
set_option linter.unusedVariables false
set_option linter.unusedSimpArgs false
namespace Go.Proofs.YtbdediacfckpcaaGreatDoor.tre
open Go.RowKit nod
open Go.Proofs.YtbdediacfckpcaaGreatDoor.rng (R RV ret_int ret_bool below_drewN info_parts own_below')

set_option maxHeartbeats 16000000 in
set_option maxRecDepth 10000 in
theorem oz_set (k m a b : Int) (g : Bool) (n : ByteArray) (sa : Option Addr) (sl sc : Nat) (ao : Option Addr) (nk cap : Nat) (w : World) (hs : ((sl : Int) == 0) = false) : Calls Tryz.prog 38 #[.agg #[.int .i64 k, .int .i64 m, .int .i64 a, .int .i64 b, .bool g, .string n, .slice sa sl sc, .slice ao nk cap]] w fun e w' => e = .returned (.bool false) ∧ Below w.heap.size w w' := by
  have CF := fields_any k (w.alloc (.cells #[.int .i64 k, .int .i64 m, .int .i64 a, .int .i64 b, .bool g, .string n, .slice sa sl sc, .slice ao nk cap] 25))
  have HB : Hid (Below w.heap.size w ((w.alloc (.cells #[.int .i64 k, .int .i64 m, .int .i64 a, .int .i64 b, .bool g, .string n, .slice sa sl sc, .slice ao nk cap] 25)).alloc (.cells #[.int .u64 (fieldsP k)] 65))) := below2 _ _ _
  generalize fieldsP k = F at *
  go_enter Tryz.func38, Tryz.ntmps38
  go_wp2_with (first | (go_at_call 46; refine CF.mono ?_; rintro e w1 ⟨rfl, rfl⟩))
  go_ret
  exact ⟨rfl, HB.out⟩
set_option maxHeartbeats 16000000 in
set_option maxRecDepth 10000 in
theorem oz_x (k m a b : Int) (g : Bool) (n : ByteArray) (sa : Option Addr) (sl sc : Nat) (ao : Option Addr) (nk cap : Nat) (w : World) (q0 q1 q2 q3 q4 q5 c0 c1 c2 c3 c4 c5 : Bool) (h0 : (m == 0) = q0) (h1 : (a == 0) = q1) (h2 : (b == 0) = q2) (h3 : (!g) = q3) (h4 : n.toList.isEmpty = q4) (h5 : ((nk : Int) == 0) = q5)
    (y0 : may k 1 = c0) (y1 : may k 2 = c1) (y2 : may k 4 = c2) (y3 : may k 8 = c3) (y4 : may k 16 = c4) (y5 : may k 32 = c5) : Calls Tryz.prog 38 #[.agg #[.int .i64 k, .int .i64 m, .int .i64 a, .int .i64 b, .bool g, .string n, .slice sa 0 sc, .slice ao nk cap]] w fun e w' => e = .returned (.bool ((q0 || c0) && (q1 || c1) && (q2 || c2) && (q3 || c3) && (q4 || c4) && (q5 || c5))) ∧ Below w.heap.size w w' := by
  have CF := fields_any k (w.alloc (.cells #[.int .i64 k, .int .i64 m, .int .i64 a, .int .i64 b, .bool g, .string n, .slice sa 0 sc, .slice ao nk cap] 25))
  have HB : Hid (Below w.heap.size w ((w.alloc (.cells #[.int .i64 k, .int .i64 m, .int .i64 a, .int .i64 b, .bool g, .string n, .slice sa 0 sc, .slice ao nk cap] 25)).alloc (.cells #[.int .u64 (fieldsP k)] 65))) := below2 _ _ _
  have hc : ((w.alloc (.cells #[.int .i64 k, .int .i64 m, .int .i64 a, .int .i64 b, .bool g, .string n, .slice sa 0 sc, .slice ao nk cap] 25)).alloc (.cells #[.int .u64 (fieldsP k)] 65)).cell? ⟨w.heap.size + 1, 0, none⟩ = some (.int .u64 (fieldsP k)) := bk2.cell 0 rfl
  have M0 := may_any k 1 (w.heap.size + 1) _ hc
  rw [y0] at M0
  have M1 := may_any k 2 (w.heap.size + 1) _ hc
  rw [y1] at M1
  have M2 := may_any k 4 (w.heap.size + 1) _ hc
  rw [y2] at M2
  have M3 := may_any k 8 (w.heap.size + 1) _ hc
  rw [y3] at M3
  have M4 := may_any k 16 (w.heap.size + 1) _ hc
  rw [y4] at M4
  have M5 := may_any k 32 (w.heap.size + 1) _ hc
  rw [y5] at M5
  generalize fieldsP k = F at *
  clear hc y0 y1 y2 y3 y4 y5
  go_enter Tryz.func38, Tryz.ntmps38
  go_wp2_with (first | (go_at_call 46; refine CF.mono ?_; rintro e w1 ⟨rfl, rfl⟩) | (go_at_call_of 47 (Value.int IntKind.u64 1); refine M0.mono ?_; rintro e w1 ⟨rfl, rfl⟩) | (go_at_call_of 47 (Value.int IntKind.u64 2); refine M1.mono ?_; rintro e w1 ⟨rfl, rfl⟩) | (go_at_call_of 47 (Value.int IntKind.u64 4); refine M2.mono ?_; rintro e w1 ⟨rfl, rfl⟩) | (go_at_call_of 47 (Value.int IntKind.u64 8); refine M3.mono ?_; rintro e w1 ⟨rfl, rfl⟩) | (go_at_call_of 47 (Value.int IntKind.u64 16); refine M4.mono ?_; rintro e w1 ⟨rfl, rfl⟩) | (go_at_call_of 47 (Value.int IntKind.u64 32); refine M5.mono ?_; rintro e w1 ⟨rfl, rfl⟩))
  all_goals (go_ret; exact ⟨by simp_all, HB.out⟩)
end Go.Proofs.YtbdediacfckpcaaGreatDoor.tre
end

section
/- othersZero of package tree at any node. -/
set_option linter.unusedVariables false
set_option linter.unusedSimpArgs false
namespace Go.Proofs.YtbdediacfckpcaaGreatDoor.tre
open Go.RowKit nod
open Go.Proofs.YtbdediacfckpcaaGreatDoor.rng (R RV ret_int ret_bool below_drewN info_parts own_below')

theorem oz_any (k m a b : Int) (g : Bool) (n : ByteArray) (s : List R) (ks : List Nd) (sa : Option Addr) (sl sc : Nat) (ao : Option Addr) (nk cap : Nat) (w : World) (hsl : s.length = sl) (hnk : ks.length = nk) :
    Calls Tryz.prog 38 #[.agg #[.int .i64 k, .int .i64 m, .int .i64 a, .int .i64 b, .bool g, .string n, .slice sa sl sc, .slice ao nk cap]] w fun e w' => e = .returned (.bool (othersZ (.mk k m a b g n s ks))) ∧ Below w.heap.size w w' := by
  have es : s.isEmpty = decide (sl = 0) := by rw [← hsl]; cases s <;> simp
  have ek : ks.isEmpty = ((nk : Int) == 0) := by rw [← hnk]; cases ks <;> simp; omega
  rw [othersZ, es, ek]
  clear es ek hsl hnk
  by_cases cs : sl = 0
  · subst cs
    have := oz_x k m a b g n sa 0 sc ao nk cap w _ _ _ _ _ _ _ _ _ _ _ _ rfl rfl rfl rfl rfl rfl rfl rfl rfl rfl rfl rfl
    simpa using this
  · rw [show decide (sl = 0) = false from decide_eq_false cs]
    simpa using oz_set k m a b g n sa sl sc ao nk cap w (by simpa using cs)
end Go.Proofs.YtbdediacfckpcaaGreatDoor.tre
end
