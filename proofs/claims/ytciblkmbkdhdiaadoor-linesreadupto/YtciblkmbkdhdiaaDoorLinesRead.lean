/- The statement LinesRead, walked. -/
import Derived.Test.YtciblkmbkdhdiaaDoorLinRefRows
set_option linter.unusedVariables false
set_option linter.unusedSimpArgs false
namespace Go.Proofs.YtciblkmbkdhdiaaDoor.lin
open Go.RowKit

/-- A row of strings lies at cell off of block b. -/
def RowAt (w : World) (b off : Nat) (fs : List ByteArray) : Prop :=
  ∃ g o c, w.cell? ⟨b, off, none⟩ = some (.slice (some ⟨g, o, none⟩) fs.length c) ∧ ∀ j, j < fs.length → w.cell? ⟨g, o + j, none⟩ = some (.string (fs.getD j ByteArray.empty))
theorem RowAt.below {w w' : World} {b off : Nat} {fs : List ByteArray} (h : RowAt w b off fs) {n : Nat} (hb : Below n w w') (hn : w.heap.size ≤ n) : RowAt w' b off fs := by
  obtain ⟨g, o, c, h3, h4⟩ := h
  have k : ∀ (a : Addr) (v : Value), w.cell? a = some v → w'.cell? a = some v := fun a v h => (hb.cell (p := a) (by have := World.block_lt_of_cell? w a h; omega)).trans h
  exact ⟨g, o, c, k _ _ h3, fun j hj => k _ _ (h4 j hj)⟩
theorem RowsAt.view {w : World} {base : Nat} {v : Value} {rs : List (List ByteArray)} (h : RowsAt w base v rs) :
    ∃ a c, v = .slice a rs.length c ∧ (0 < rs.length → ∃ g, a = some ⟨g, 0, none⟩ ∧ ∀ (i : Nat) (fs : List ByteArray), rs[i]? = some fs → RowAt w g i fs) := by
  obtain ⟨L, rfl, ho, hf⟩ := h
  rw [List.length_map]
  rcases ho.2 with hn | ⟨g, cap, cur, rfl, hg, hgg, h3, h4, h5, h6⟩
  · obtain ⟨rfl, h0⟩ := hn
    have h0' : L.length = 0 := by simpa using h0
    rw [h0']
    exact ⟨_, _, rfl, fun h => by omega⟩
  · refine ⟨_, _, rfl, fun _ => ⟨g, rfl, ?_⟩⟩
    intro i fs hr
    rw [List.getElem?_map] at hr
    cases hq : L[i]? with
    | none => rw [hq] at hr; cases hr
    | some q =>
      rw [hq] at hr
      obtain rfl : q.2 = fs := by simpa using hr
      have hi : i < L.length * 1 := by have := (List.getElem?_eq_some_iff.1 hq).1; omega
      obtain ⟨g', o, c, cur', hv, _, hgg', hcc⟩ := hf q (List.mem_of_getElem? hq)
      refine ⟨g', o, c, ?_, ?_⟩
      · rw [cell_of_row w g i cur _ _ hgg, ← Array.getElem?_toList, ← List.getElem?_take_of_lt hi, h6, List.getElem?_map, hq, ← hv]; rfl
      · intro j hj
        rw [cell_of_row w g' _ cur' _ _ hgg']
        exact hcc j hj

set_option maxHeartbeats 1000000 in
theorem sameRow_any (g1 o1 c1 g2 o2 c2 : Nat) (fs : List ByteArray) (w : World) (hn : fs.length ≤ 1099511627776)
    (h1 : ∀ j, j < fs.length → w.cell? ⟨g1, o1 + j, none⟩ = some (.string (fs.getD j ByteArray.empty))) (h2 : ∀ j, j < fs.length → w.cell? ⟨g2, o2 + j, none⟩ = some (.string (fs.getD j ByteArray.empty))) :
    Calls Tryd.prog 14 #[.slice (some ⟨g1, o1, none⟩) fs.length c1, .slice (some ⟨g2, o2, none⟩) fs.length c2] w fun e w' => e = .returned (.bool true) ∧ Below w.heap.size w w' := by
  have SE : Calls Tryd.prog 15 #[.slice (some ⟨g1, o1, none⟩) fs.length c1, .slice (some ⟨g2, o2, none⟩) fs.length c2] w fun e w' => e = .returned (.bool true) ∧ ∃ q, w' = w.drewN q := by
    refine (Tryd.slices_Equal_string g1 o1 fs.length c1 g2 o2 fs.length c2 fs fs w (Nat.le_refl _) (Nat.le_refl _) (by omega) (by omega) h1 h2).mono ?_
    rintro e w' ⟨rfl, q, rfl⟩
    exact ⟨by simp, q, rfl⟩
  clear h1 h2
  go_enter Tryd.func14, Tryd.ntmps14
  go_wp2_with fail
  refine SE.mono ?_
  rintro e w2 ⟨rfl, q, rfl⟩
  go_wp2
  go_ret
  exact ⟨rfl, ⟨rfl, rfl, rfl, Nat.le_refl _, fun _ _ => rfl⟩⟩

set_option maxHeartbeats 2000000 in
set_option maxRecDepth 100000 in
theorem equalRows (b1 c1 b2 c2 : Nat) (rs : List (List ByteArray)) (w : World) (hn : rs.length ≤ 1099511627776) (hl : ∀ r ∈ rs, r.length ≤ 1099511627776)
    (h1 : ∀ (i : Nat) (r : List ByteArray), rs[i]? = some r → RowAt w b1 i r) (h2 : ∀ (i : Nat) (r : List ByteArray), rs[i]? = some r → RowAt w b2 i r) :
    Calls Tryd.prog 11 #[.slice (some ⟨b1, 0, none⟩) rs.length c1, .slice (some ⟨b2, 0, none⟩) rs.length c2, .func (.func 14) #[] #[]] w fun e w' => e = .returned (.bool true) ∧ Below w.heap.size w w' := by
  have H1 : Hid (∀ (i : Nat) (r : List ByteArray), rs[i]? = some r → RowAt w b1 i r) := h1
  have H2 : Hid (∀ (i : Nat) (r : List ByteArray), rs[i]? = some r → RowAt w b2 i r) := h2
  have HL : Hid (∀ r ∈ rs, r.length ≤ 1099511627776) := hl
  have hnn : ((rs.length : Int) != (rs.length : Int)) = false := by simp
  have HN : Hid (∀ i, i < rs.length → ∃ r, rs[i]? = some r) := fun i h => ⟨_, List.getElem?_eq_getElem h⟩
  clear h1 h2 hl
  go_enter Tryd.func11, Tryd.ntmps11
  go_wp2
  go_loopw [17] (fun i wr => ∃ k : Nat, k ≤ rs.length ∧ i = .int .i64 k ∧ Below w.heap.size w wr) (fun i _ => rs.length - (intOf i).toNat)
  case atStart => exact ⟨0, Nat.zero_le _, rfl, Below.refl _ _⟩
  case round =>
    obtain ⟨k, hk, rfl, hbel⟩ := hrel
    by_cases hlt : k < rs.length
    · obtain ⟨r, hr⟩ := HN.out k hlt
      obtain ⟨g1, q1, d1, p3, p4⟩ := (H1.out k r hr).below hbel (Nat.le_refl _)
      obtain ⟨g2, q2, d2, m3, m4⟩ := (H2.out k r hr).below hbel (Nat.le_refl _)
      have hz := HL.out r (List.mem_of_getElem? hr)
      have hlt' : (k : Int) < (rs.length : Int) := by omega
      have SA := sameRow_any g1 q1 d1 g2 q2 d2 r wr hz p4 m4
      clear p4 m4 hr
      go_wp2_with fail
      refine SA.mono ?_
      rintro e w2 ⟨rfl, hb3⟩
      have R1 := hbel.trans (hb3.mono hbel.size)
      clear SA hb3
      go_wp2
      go_roundw
      case rel => exact ⟨k + 1, by omega, by go_num, R1⟩
      case measure => simp [intOf]; omega
    · obtain rfl : k = rs.length := by omega
      go_wp2
      go_ret
      exact ⟨rfl, hbel⟩
theorem equalRows_none (a1 a2 : Option Addr) (c1 c2 : Nat) (w : World) :
    Calls Tryd.prog 11 #[.slice a1 0 c1, .slice a2 0 c2, .func (.func 14) #[] #[]] w fun e w' => e = .returned (.bool true) ∧ Below w.heap.size w w' := by
  go_enter Tryd.func11, Tryd.ntmps11
  go_wp2
  refine wp_loop_rounds 1 ?_
  rw [rounds_succ]
  go_wp2
  go_ret
  exact ⟨rfl, Below.refl _ _⟩
theorem rowsOf_fields (s : ByteArray) : ∀ r ∈ rowsOf (cutV s 10), r.length ≤ s.size + 1 := by
  intro r hr
  unfold rowsOf at hr
  obtain ⟨x, hx, hr⟩ := List.mem_flatMap.1 hr
  unfold rowOf at hr
  split at hr
  · cases hr
  · obtain rfl := List.mem_singleton.1 hr
    have h1 := fields_len x
    have h2 : x.size ≤ s.size := cuts_size _ _ _ _ _ x hx
    omega

set_option maxHeartbeats 4000000 in
set_option maxRecDepth 100000 in
theorem linesRead_any (s : ByteArray) (w : World) (m : Int) (hs : s.size ≤ 1048576) (hm : w.cell? ⟨2, 0, none⟩ = some (.int .i64 m)) (hm2 : 2 < w.heap.size) :
    Calls Tryd.prog 3 #[.string s] w fun e w' => e = .returned (.bool true) ∧ Below w.heap.size w w' := by
  have mx : ∀ W, Below w.heap.size w W → W.cell? ⟨2, 0, none⟩ = some (.int .i64 m) ∧ 2 < W.heap.size := fun W h => ⟨(h.cell (p := ⟨2, 0, none⟩) hm2).trans hm, by have := h.size; omega⟩
  have PA := parse_any s w m (by omega) hm hm2
  have PB := fun W => rparse_any s W (by omega)
  have hlr : (parseV s).1.length ≤ 1048577 ∧ ∀ r ∈ (parseV s).1, r.2.2.length ≤ 1048577 := by
    cases h : (cutV s 10).all lineOk with
    | true =>
      rw [parseV_all s h]
      refine ⟨?_, fun r hr => ?_⟩
      · have := recsOf_len (cutV s 10); have := cutV_len s 10; show (recsOf (cutV s 10)).length ≤ _; omega
      · have := recsOf_fields s r hr; omega
    | false =>
      obtain ⟨n, hn, _⟩ := parseV_not s h
      rw [hn]
      exact ⟨by simp, fun r hr => by cases hr⟩
  have R1 := fun W => rows_any s W (by omega)
  have R2 := fun W => rrows_any s W (by omega)
  have hrl : (rowsOf (cutV s 10)).length ≤ 1048577 := by have := rowsOf_len (cutV s 10); have := cutV_len s 10; omega
  have hrf := rowsOf_fields s
  obtain ⟨hl1, hl2⟩ := hlr
  have HL2 : Hid (∀ r ∈ (parseV s).1, r.2.2.length ≤ 1048577) := hl2
  have HRF : Hid (∀ r ∈ rowsOf (cutV s 10), r.length ≤ s.size + 1) := hrf
  have HMX : Hid (∀ W, Below w.heap.size w W → W.cell? ⟨2, 0, none⟩ = some (.int .i64 m) ∧ 2 < W.heap.size) := mx
  clear hl2 hrf mx
  generalize parseV s = pv at *
  obtain ⟨rs, n, er⟩ := pv
  generalize rowsOf (cutV s 10) = rows at *
  simp only [] at *
  go_enter Tryd.func3, Tryd.ntmps3
  go_wp2_with fail
  refine PA.mono ?_
  rintro e w1 ⟨x, rfl, hX, b1⟩
  clear PA
  have HX : Hid (View w1 x rs) := hX.seen
  obtain ⟨xa, xc, rfl, _⟩ := hX.view
  clear hX
  go_wp2_with fail
  refine (PB w1).mono ?_
  rintro e w2 ⟨y, rfl, hY, b2⟩
  clear PB
  have HY : Hid (View w2 y rs) := hY.seen
  obtain ⟨ya, yc, rfl, _⟩ := hY.view
  clear hY
  have b12 := b1.trans (b2.mono b1.size)
  go_wp2_with fail
  refine (R1 w2).mono ?_
  rintro e w3 ⟨v, rfl, hV, b3⟩
  have b13 := b12.trans (b3.mono b12.size)
  clear R1
  have HV : Hid (RowsAt w3 w2.heap.size v rows) := hV
  obtain ⟨va, vc, rfl, _⟩ := hV.view
  clear hV
  go_wp2_with fail
  refine (R2 w3).mono ?_
  rintro e w4 ⟨u, rfl, hU, b4⟩
  have b14 := b13.trans (b4.mono b13.size)
  clear R2
  have hV4 := HV.out.kept b4
  have EQ : Calls Tryd.prog 11 #[.slice va rows.length vc, u, .func (.func 14) #[] #[]] w4 fun e w' => e = .returned (.bool true) ∧ Below w4.heap.size w4 w' := by
    obtain ⟨a1, c1, e1, k1⟩ := hV4.view
    obtain ⟨a2, c2, rfl, k2⟩ := hU.view
    cases e1
    rcases Nat.eq_zero_or_pos rows.length with h0 | h0
    · rw [h0]; exact equalRows_none _ _ _ _ w4
    · obtain ⟨g1, rfl, q1⟩ := k1 h0
      obtain ⟨g2, rfl, q2⟩ := k2 h0
      exact equalRows g1 vc g2 c2 rows w4 (by omega) (fun r hr => by have := HRF.out r hr; omega) q1 q2
  obtain ⟨ua, uc, rfl, _⟩ := hU.view
  have HX4 : Hid (View w4 (.slice xa rs.length xc) rs) := (HX.out.below (b2.trans ((b3.trans (b4.mono b3.size)).mono b2.size)) (Nat.le_refl _))
  have HY4 : Hid (View w4 (.slice ya rs.length yc) rs) := (HY.out.below (b3.trans (b4.mono b3.size)) (Nat.le_refl _))
  clear hU hV4 HV HX HY HRF
  go_wp2_with fail
  refine EQ.mono ?_
  rintro e w5 ⟨rfl, b5⟩
  have b15 := b14.trans (b5.mono b14.size)
  have SA := sameRecs_any _ _ rs w5 (by omega) (fun r hr => by have := HL2.out r hr; omega) (HX4.out.below b5 (Nat.le_refl _)) (HY4.out.below b5 (Nat.le_refl _))
  have AW : ∀ W, Below w.heap.size w W → Calls Tryd.prog 17 #[] W fun e w' => e = .returned (.bool true) ∧ Below W.heap.size W w' := fun W h => awake_any W m (HMX.out W h).1 (HMX.out W h).2
  clear EQ HX4 HY4 HL2
  have t1 : ((n : Int) == (n : Int)) = true := by simp
  have t2 : (er == er) = true := by simp
  go_wp2_with fail
  refine SA.mono ?_
  rintro e w6 ⟨rfl, b6⟩
  have b16 := b15.trans (b6.mono b15.size)
  clear SA
  go_wp2_with fail
  refine (AW w6 b16).mono ?_
  rintro e w7 ⟨rfl, b7⟩
  go_wp2
  go_ret
  exact ⟨rfl, b16.trans (b7.mono b16.size)⟩
end Go.Proofs.YtciblkmbkdhdiaaDoor.lin
