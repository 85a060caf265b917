/- What the document's Hex and lines.Hex answer of a string of four to six bytes. -/
import Derived.Test.YtciblkmbkdhdiaaDoorLinHex
set_option linter.unusedVariables false
set_option linter.unusedSimpArgs false
namespace Go.Proofs.YtciblkmbkdhdiaaDoor.lin
open Go.RowKit

set_option maxHeartbeats 1000000 in
theorem rhex_long (s : ByteArray) (w : World) (h4 : 4 ≤ s.size) (h6 : s.size ≤ 6) :
    Calls Tryd.prog 19 #[.string s] w fun e w' => e = .returned (.tuple #[.int .i64 (hexN s), .bool (hexB s)]) ∧ w' = w := by
  have t1 : ¬ ((s.size : Int) < 4) := by omega
  have t2 : ¬ ((6 : Int) < (s.size : Int)) := by omega
  go_enter Tryd.func19, Tryd.ntmps19
  go_wp2
  go_loop [4, 5] (fun n i => ∃ (p : Nat) (v : Int), p ≤ s.size ∧ i = .int .i64 p ∧ n = .int .i64 v ∧ Hid (Lim p v) ∧ Hid (hx s (s.size - p) p v = hx s s.size 0 0)) (fun _ i => s.size - (intOf i).toNat)
  case atStart => exact ⟨0, 0, Nat.zero_le _, rfl, rfl, (by unfold Hid Lim; omega), rfl⟩
  case round =>
    obtain ⟨p, v, hp, rfl, rfl, HL, HX⟩ := hrel
    obtain ⟨hv0, hv1⟩ := HL.out.le (by omega)
    by_cases hlt : p < s.size
    · have hb := at8_le s p
      have he := at8_eq s p hlt
      by_cases hd : dok (at8 s p) = true
      · have HX2 : Hid (hx s (s.size - (p + 1)) (p + 1) (v * 16 + dv (at8 s p)) = hx s s.size 0 0) := by
          have := hx_go s (s.size - p) p v (by omega) hd
          rw [show s.size - p - 1 = s.size - (p + 1) from by omega] at this
          exact this.symm.trans HX.out
        have hdl := dv_le (at8 s p)
        have HL2 : Hid (Lim (p + 1) (v * 16 + dv (at8 s p))) := HL.out.step (by omega) hdl.1 hdl.2
        have hcs := (dok_iff _).1 hd
        rw [he] at hcs HX2 HL2 hb
        clear HX HL hd he hdl
        rcases hcs with hc | hc | hc
        · have hdv : dv ((s[p]'hlt).toNat : Int) = ((s[p]'hlt).toNat : Int) - 48 := by unfold dv; (repeat' split) <;> omega
          rw [hdv] at HX2 HL2
          clear hdv
          obtain ⟨c1, c2⟩ := hc
          go_wp2
          go_round
          case rel => exact ⟨p + 1, _, by omega, by go_num, congrArg (Value.int .i64) (by omega), HL2, HX2⟩
          case measure => simp [intOf]; omega
        · have hdv : dv ((s[p]'hlt).toNat : Int) = ((s[p]'hlt).toNat : Int) - 55 := by unfold dv; (repeat' split) <;> omega
          rw [hdv] at HX2 HL2
          clear hdv
          obtain ⟨c1, c2⟩ := hc
          go_wp2
          go_round
          case rel => exact ⟨p + 1, _, by omega, by go_num, congrArg (Value.int .i64) (by omega), HL2, HX2⟩
          case measure => simp [intOf]; omega
        · have hdv : dv ((s[p]'hlt).toNat : Int) = ((s[p]'hlt).toNat : Int) - 87 := by unfold dv; (repeat' split) <;> omega
          rw [hdv] at HX2 HL2
          clear hdv
          obtain ⟨c1, c2⟩ := hc
          go_wp2
          go_round
          case rel => exact ⟨p + 1, _, by omega, by go_num, congrArg (Value.int .i64) (by omega), HL2, HX2⟩
          case measure => simp [intOf]; omega
      · have hd' : dok (at8 s p) = false := by simpa using hd
        have HN : Hid (hexV s = none) := hexV_none s (HX.out.symm.trans (hx_no s (s.size - p) p v (by omega) hd'))
        have hnd : ¬ ((48 ≤ at8 s p ∧ at8 s p ≤ 57) ∨ (65 ≤ at8 s p ∧ at8 s p ≤ 70) ∨ (97 ≤ at8 s p ∧ at8 s p ≤ 102)) := fun h => hd ((dok_iff _).2 h)
        rw [he] at hnd hb
        clear hd hd' HX HL he
        rcases (show ((s[p]'hlt).toNat : Int) < 48 ∨ (57 < ((s[p]'hlt).toNat : Int) ∧ ((s[p]'hlt).toNat : Int) < 65) ∨ (70 < ((s[p]'hlt).toNat : Int) ∧ ((s[p]'hlt).toNat : Int) < 97) ∨ 102 < ((s[p]'hlt).toNat : Int) from by omega) with c | ⟨c, c'⟩ | ⟨c, c'⟩ | c
        all_goals
          clear hnd
          go_wp2
          go_ret2
          exact ⟨ret_ib (hex_none HN.out).1.symm (hex_none HN.out).2.symm, rfl⟩
    · obtain rfl : p = s.size := by omega
      have HX2 : Hid (hx s s.size 0 0 = some v) := by have := HX.out; rw [Nat.sub_self] at this; exact this.symm
      clear HX HL
      by_cases hv : 1114111 < v
      · go_wp2
        go_ret2
        exact ⟨ret_ib (hex_none (hexV_big s v HX2.out hv)).1.symm (hex_none (hexV_big s v HX2.out hv)).2.symm, rfl⟩
      · have hv' : v ≤ 1114111 := by omega
        go_wp2
        go_ret2
        exact ⟨ret_ib (hex_some (hexV_some s v HX2.out ⟨h4, h6⟩ hv')).1.symm (hex_some (hexV_some s v HX2.out ⟨h4, h6⟩ hv')).2.symm, rfl⟩

/-- What the document's Hex answers. -/
theorem rhex_any (s : ByteArray) (w : World) (hs : s.size ≤ 9223372036854775807) :
    Calls Tryd.prog 19 #[.string s] w fun e w' => e = .returned (.tuple #[.int .i64 (hexN s), .bool (hexB s)]) ∧ w' = w := by
  by_cases h : s.size < 4 ∨ 6 < s.size
  · exact rhex_short s w h hs
  · exact rhex_long s w (by omega) (by omega)

theorem hex_short (s : ByteArray) (w : World) (h : s.size < 4 ∨ 6 < s.size) (hs : s.size ≤ 9223372036854775807) :
    Calls Tryd.prog 18 #[.string s] w fun e w' => e = .returned (.tuple #[.int .i64 (hexN s), .bool (hexB s)]) ∧ Below w.heap.size w w' := by
  obtain ⟨e1, e2⟩ := hex_none (hexV_short s h)
  rw [e1, e2]
  rcases h with h | h
  · go_enter Tryd.func18, Tryd.ntmps18
    go_wp2
    all_goals (go_ret2; exact ⟨rfl, Below.refl _ _⟩)
  · have h' : ¬ s.size < 4 := by omega
    go_enter Tryd.func18, Tryd.ntmps18
    go_wp2
    all_goals (go_ret2; exact ⟨rfl, Below.refl _ _⟩)

theorem below_iter (w : World) (s : ByteArray) (p : Nat) : Below w.heap.size w (w.iter s p) := (Below.refl _ _).alloc (Nat.le_refl _) _

set_option maxHeartbeats 1000000 in
theorem hex_long (s : ByteArray) (w : World) (h4 : 4 ≤ s.size) (h6 : s.size ≤ 6) :
    Calls Tryd.prog 18 #[.string s] w fun e w' => e = .returned (.tuple #[.int .i64 (hexN s), .bool (hexB s)]) ∧ Below w.heap.size w w' := by
  have t1 : ¬ ((s.size : Int) < 4) := by omega
  have t2 : ¬ ((6 : Int) < (s.size : Int)) := by omega
  go_enter Tryd.func18, Tryd.ntmps18
  go_wp2
  go_loopw [4] (fun n wr => ∃ (p : Nat) (v : Int), p ≤ s.size ∧ n = .int .i64 v ∧ wr = w.iter s p ∧ Hid (Lim p v) ∧ Hid (hx s (s.size - p) p v = hx s s.size 0 0)) (fun _ wr => s.size - wr.iterPos w.heap.size)
  case atStart => exact ⟨0, 0, Nat.zero_le _, rfl, rfl, (by unfold Hid Lim; omega), rfl⟩
  case round =>
    obtain ⟨p, v, hp, rfl, rfl, HL, HX⟩ := hrel
    obtain ⟨hv0, hv1⟩ := HL.out.le (by omega)
    by_cases hlt : p < s.size
    · by_cases ha : (s[p]'hlt).toNat < 128
      · have hnx := fun ty => run_next_ascii (P := Tryd.prog) w s p ty hlt ha
        have he := at8_eq s p hlt
        have DG := digit_any ((s[p]'hlt).toNat : Int) (w.iter s (p + 1)) (by omega) (by omega)
        cases hd : dok (at8 s p) with
        | true =>
          have HX2 : Hid (hx s (s.size - (p + 1)) (p + 1) (v * 16 + dv (at8 s p)) = hx s s.size 0 0) := by
            have := hx_go s (s.size - p) p v (by omega) hd
            rw [show s.size - p - 1 = s.size - (p + 1) from by omega] at this
            exact this.symm.trans HX.out
          obtain ⟨hd0, hd1⟩ := dv_le (at8 s p)
          have HL2 : Hid (Lim (p + 1) (v * 16 + dv (at8 s p))) := HL.out.step (by omega) hd0 hd1
          have ho := or_digit v (dv (at8 s p)) hv0 hv1 hd0 hd1
          rw [← he, hd] at DG
          rw [he] at DG
          clear HX HL
          rw [he] at HX2 HL2 ho hd0 hd1
          clear he hd
          generalize dv ((s[p]'hlt).toNat : Int) = d at *
          go_wp2_with (go_at_call 31; refine DG.mono ?_; rintro e w' ⟨rfl, rfl⟩)
          go_roundw
          case rel => exact ⟨p + 1, v * 16 + d, by omega, rfl, by trivial, HL2, HX2⟩
          case measure => simp; omega
        | false =>
          have HN : Hid (hexV s = none) := hexV_none s (HX.out.symm.trans (hx_no s (s.size - p) p v (by omega) hd))
          rw [← he, hd] at DG
          rw [he] at DG
          clear HX HL he hd
          go_wp2_with (go_at_call 31; refine DG.mono ?_; rintro e w' ⟨rfl, rfl⟩)
          go_ret2
          exact ⟨ret_ib (hex_none HN.out).1.symm (hex_none HN.out).2.symm, below_iter w s _⟩
      · have hnx := fun ty => run_next_any (P := Tryd.prog) w s p ty hlt
        have hge := decode_high s p hlt (by omega)
        have hle := decode_le s p
        have he := at8_eq s p hlt
        have hd : dok (at8 s p) = false := by
          cases hd : dok (at8 s p) with
          | false => rfl
          | true => have := (dok_iff _).1 hd; rw [he] at this; omega
        have hd2 : dok ((Utf8.decode s p).1 : Int) = false := by
          cases hd : dok ((Utf8.decode s p).1 : Int) with
          | false => rfl
          | true => have := (dok_iff _).1 hd; omega
        have HN : Hid (hexV s = none) := hexV_none s (HX.out.symm.trans (hx_no s (s.size - p) p v (by omega) hd))
        have DG := digit_any ((Utf8.decode s p).1 : Int) (w.iter s (p + (Utf8.decode s p).2)) (by omega) (by omega)
        rw [hd2] at DG
        clear HX HL he hd hd2 hge
        generalize (Utf8.decode s p).1 = r at *
        generalize (Utf8.decode s p).2 = q at *
        go_wp2_with (go_at_call 31; refine DG.mono ?_; rintro e w' ⟨rfl, rfl⟩)
        go_ret2
        exact ⟨ret_ib (hex_none HN.out).1.symm (hex_none HN.out).2.symm, below_iter w s _⟩
    · obtain rfl : p = s.size := by omega
      have hnx := fun ty => run_next_end (P := Tryd.prog) w s s.size ty (by omega)
      have HX2 : Hid (hx s s.size 0 0 = some v) := by have := HX.out; rw [Nat.sub_self] at this; exact this.symm
      clear HX HL
      by_cases hv : 1114111 < v
      · go_wp2
        go_ret2
        exact ⟨ret_ib (hex_none (hexV_big s v HX2.out hv)).1.symm (hex_none (hexV_big s v HX2.out hv)).2.symm, below_iter w s _⟩
      · have hv' : v ≤ 1114111 := by omega
        go_wp2
        go_ret2
        exact ⟨ret_ib (hex_some (hexV_some s v HX2.out ⟨h4, h6⟩ hv')).1.symm (hex_some (hexV_some s v HX2.out ⟨h4, h6⟩ hv')).2.symm, below_iter w s _⟩

/-- What lines.Hex answers: what the document's Hex does. -/
theorem hex_any (s : ByteArray) (w : World) (hs : s.size ≤ 9223372036854775807) :
    Calls Tryd.prog 18 #[.string s] w fun e w' => e = .returned (.tuple #[.int .i64 (hexN s), .bool (hexB s)]) ∧ Below w.heap.size w w' := by
  by_cases h : s.size < 4 ∨ 6 < s.size
  · exact hex_short s w h hs
  · exact hex_long s w (by omega) (by omega)
end Go.Proofs.YtciblkmbkdhdiaaDoor.lin
