/- Texts that the proof leans on, one behind the other. -/
import Derived.Test.YtlgkfnecahgedaaGreatDoorBdTok18

section
/- The document's code points in digits. -/
set_option linter.unusedVariables false
set_option linter.unusedSimpArgs false
namespace Go.Proofs.YtlgkfnecahgedaaGreatDoor.tok
open Go.RowKit
open lin (BA Turns)

set_option maxHeartbeats 4000000 in
set_option maxRecDepth 100000 in
theorem rhex_go (rb tb : Nat) (ao : Option Addr) (n cap : Nat) (f : Nat → Int) (a k : Nat) (c p : Int) (st : Nat) (w : World) (h : RT w rb tb ao n cap f a k c p ⟨0, 0, 0, 0, [], false, st, 0⟩) (hst : noneC f st = 132) (hl : a < n) (q0 : hasB f n a [123] = true) :
    Calls Tryz.prog 49 #[.pointer (some ⟨rb, 0, none⟩), .pointer (some ⟨tb, 0, none⟩)] w (REt w rb tb ao n cap f k c p st (hexO f n st (a + 1) (cntD hexB f n 6 (a + 1)))) := by
  have Q0 : Hid (hasB f n a [123] = true) := q0
  clear q0
  have hz2 : 0 < n - a := by omega
  have hz3 : ¬ n - a = 0 := by omega
  have hz4 : (((n - a : Nat) : Int) == 0) = false := by simp; omega
  have hcl := cntD_le hexB f n 6 (a + 1)
  have HA := cntD_at hexB f n 6 (a + 1)
  have HE := cntD_end hexB f n 6 (a + 1)
  generalize cntD hexB f n 6 (a + 1) = D at *
  have HA : Hid (∀ j, j < D → a + 1 + j < n ∧ hexB (f (a + 1 + j)) = true) := HA
  have HE : Hid (D < 6 → ¬ (a + 1 + D < n ∧ hexB (f (a + 1 + D)) = true)) := HE
  obtain ⟨hD1, hD2⟩ := hcl
  have hD2 := hD2 (by omega)
  obtain ⟨R, hR⟩ : ∃ R, hexO f n st (a + 1) D = R := ⟨_, rfl⟩
  rw [hR]
  have HR : Hid (hexO f n st (a + 1) D = R) := hR
  have HST : Hid (noneC f st = 132) := hst
  have HF : Hid (∀ i, 0 ≤ f i ∧ f i ≤ 255) := h.rs.ff
  clear hR hst
  have hby := h.rs.byt
  have hne : ¬ tb = rb := h.ne
  have hne' : ¬ rb = tb := fun e => h.ne e.symm
  have hn := h.rs.nn
  have ha := h.rs.aa
  have hcc := h.rs.cc
  have hcm := h.rs.cm
  have S0 := h
  have U0 : T2 rb tb w w := lin.Turns.refl _ w
  clear h
  obtain ⟨⟨c0, c1, c2, z1, z2⟩, ⟨k0, k1, k2, k3, k4, k5, k6, k7⟩, ⟨f0, f1, f2, f3, f4, f5, f6, f7⟩⟩ := S0.cells
  go_enter Tryz.func49, Tryz.ntmps49
  obtain ⟨b, off, rfl, hbn, -⟩ := hby
  have C := rest_t S0 U0
  go_wp2_with fail
  refine C.mono ?_
  rintro e w1 ⟨rfl, S1, U1⟩
  clear C S0 U0
  clear c0 c1 c2 z1 z2 k0 k1 k2 k3 k4 k5 k6 k7 f0 f1 f2 f3 f4 f5 f6 f7
  obtain ⟨⟨c0, c1, c2, z1, z2⟩, ⟨k0, k1, k2, k3, k4, k5, k6, k7⟩, ⟨f0, f1, f2, f3, f4, f5, f6, f7⟩⟩ := S1.cells
  have C := has_t S1 U1 [123] (by decide) (by decide)
  rw [Q0.out] at C
  go_wp2_with fail
  refine C.mono ?_
  rintro e w2 ⟨rfl, S2, U2⟩
  clear C S1 U1
  clear c0 c1 c2 z1 z2 k0 k1 k2 k3 k4 k5 k6 k7 f0 f1 f2 f3 f4 f5 f6 f7
  obtain ⟨⟨c0, c1, c2, z1, z2⟩, ⟨k0, k1, k2, k3, k4, k5, k6, k7⟩, ⟨f0, f1, f2, f3, f4, f5, f6, f7⟩⟩ := S2.cells
  have S3 := S2.put1 (x := ((a : Nat) : Int) + 1) (a' := a + 1) (by omega) (by omega)
  have U3 := T2.at U2 1 (.int .i64 (((a : Nat) : Int) + 1))
  clear S2 U2
  have HS : Hid (RT (w2.setCell ⟨rb, 1, none⟩ (.int .i64 (((a : Nat) : Int) + 1))) rb tb (some ⟨b, off, none⟩) n cap f (a + 1) k c p ⟨0, 0, 0, 0, [], false, st, 0⟩) := S3
  have HU : Hid (T2 rb tb w (w2.setCell ⟨rb, 1, none⟩ (.int .i64 (((a : Nat) : Int) + 1)))) := U3
  clear S3 U3
  go_wp2
  clear c0 c1 c2 z1 z2 k0 k1 k2 k3 k4 k5 k6 k7 f0 f1 f2 f3 f4 f5 f6 f7
  clear Q0 hz2 hz3 hz4
  obtain ⟨B, hB⟩ : ∃ B, a + 1 = B := ⟨_, rfl⟩
  rw [hB] at HS HA HE HR hD2
  go_loopw [5] (fun v wr => ∃ (j : Nat) (X : ByteArray), j ≤ D ∧ v = .string X ∧ Hid (X = BA (bytes f B (B + j))) ∧ Hid (RT wr rb tb (some ⟨b, off, none⟩) n cap f (B + j) k c p ⟨0, 0, 0, 0, [], false, st, 0⟩) ∧ Hid (T2 rb tb w wr))
    (fun v _ => D - (match v with | .string X => X.size | _ => 0))
  case atStart => exact ⟨0, _, Nat.zero_le _, rfl, by unfold Hid; rw [show B + 0 = B from rfl, bytes_zero]; rfl, HS, HU⟩
  case round =>
    obtain ⟨j, X, hj, rfl, HX, HW, HT⟩ := hrel
    clear HS HU
    have hxs : X.size = j := by rw [HX.out]; show (bytes f B (B + j)).length = j; rw [bytes_len]; omega
    have S0 := HW.out
    have U0 := HT.out
    clear HW HT
    by_cases hlt : j < D
    ·
      obtain ⟨han, hhx⟩ := HA.out j hlt
      have hj6 : (j : Int) < 6 := by omega
      have hy2 : 0 < n - (B + j) := by omega
      have hy5 : (0 : Int) < ((n - (B + j) : Nat) : Int) := by omega
      have hy6 : (1 : Int) ≤ ((cap - (B + j) : Nat) : Int) := by omega
      have DG := fun W => rhexDigit_any (f (B + j)) W
      rw [hhx] at DG
      clear hhx
      obtain ⟨⟨c0, c1, c2, z1, z2⟩, ⟨k0, k1, k2, k3, k4, k5, k6, k7⟩, ⟨f0, f1, f2, f3, f4, f5, f6, f7⟩⟩ := S0.cells
      have C := rest_lt S0 U0 han
      go_wp2_with fail
      refine C.mono ?_
      rintro e w1 ⟨gb1, go1, rfl, cx1, hg1, hh1, S1, U1⟩
      clear C S0 U0
      clear c0 c1 c2 z1 z2 k0 k1 k2 k3 k4 k5 k6 k7 f0 f1 f2 f3 f4 f5 f6 f7
      obtain ⟨⟨c0, c1, c2, z1, z2⟩, ⟨k0, k1, k2, k3, k4, k5, k6, k7⟩, ⟨f0, f1, f2, f3, f4, f5, f6, f7⟩⟩ := S1.cells
      have C := rest_lt S1 U1 han
      go_wp2_with fail
      refine C.mono ?_
      rintro e w2 ⟨gb2, go2, rfl, cx2, hg2, hh2, S2, U2⟩
      clear C S1 U1
      clear c0 c1 c2 z1 z2 k0 k1 k2 k3 k4 k5 k6 k7 f0 f1 f2 f3 f4 f5 f6 f7
      obtain ⟨⟨c0, c1, c2, z1, z2⟩, ⟨k0, k1, k2, k3, k4, k5, k6, k7⟩, ⟨f0, f1, f2, f3, f4, f5, f6, f7⟩⟩ := S2.cells
      go_wp2_with fail
      refine (DG _).mono ?_
      rintro e w' ⟨rfl, rfl⟩
      clear DG
      have RR := rest_t S2 U2
      rw [rA_lt b off (B + j) cap (by omega)] at RR
      go_wp2_with fail
      refine RR.mono ?_
      rintro e w3 ⟨rfl, S3, U3⟩
      clear RR S2 U2
      clear c0 c1 c2 z1 z2 k0 k1 k2 k3 k4 k5 k6 k7 f0 f1 f2 f3 f4 f5 f6 f7
      obtain ⟨⟨c0, c1, c2, z1, z2⟩, ⟨k0, k1, k2, k3, k4, k5, k6, k7⟩, ⟨f0, f1, f2, f3, f4, f5, f6, f7⟩⟩ := S3.cells
      have CV := S3.conv (B + j) (B + j + 1) (cap - (B + j)) (by omega) han
      rw [show B + j + 1 - (B + j) = 1 by omega] at CV
      have HXX : X ++ BA (bytes f (B + j) (B + j + 1)) = BA (bytes f B (B + j + 1)) := by rw [HX.out]; exact bytes_snoc f B j
      have hys : (BA (bytes f B (B + j + 1))).size = j + 1 := by show (bytes f B (B + j + 1)).length = j + 1; rw [bytes_len]; omega
      have hzs : (BA (bytes f (B + j) (B + j + 1))).size = 1 := by show (bytes f (B + j) (B + j + 1)).length = 1; rw [bytes_len]; omega
      obtain ⟨Y, HY⟩ : ∃ Y, BA (bytes f B (B + j + 1)) = Y := ⟨_, rfl⟩
      rw [HY] at HXX hys
      have HX2 : Hid (Y = BA (bytes f B (B + (j + 1)))) := HY.symm
      clear HY
      generalize BA (bytes f (B + j) (B + j + 1)) = Z at *
      have S4 := S3.put1 (x := ((B + j : Nat) : Int) + 1) (a' := B + (j + 1)) (by omega) (by omega)
      have U4 := T2.at U3 1 (.int .i64 (((B + j : Nat) : Int) + 1))
      have ecast : ((B + j : Nat) : Int) = (B : Int) + (j : Int) := by omega
      rw [ecast] at S4 U4 c1
      clear S3 U3 HX cx1 cx2
      go_wp2
      exact ⟨⟨j + 1, Y, by omega, (by first | rfl | rw [HXX]), HX2, S4, U4⟩, by simp [HXX, hxs, hys]; omega⟩
    ·
      obtain rfl : j = D := by omega
      have HV : Hid (∀ i, i ≤ j → 0 ≤ valD 16 f i B 0 ∧ valD 16 f i B 0 ≤ 16777215) := fun i hi => by
        have := valX_small f HF.out i B (fun q hq => (HA.out q (by omega)).2) (by omega)
        have h6 : (16 : Int) ^ i ≤ 16777216 := by rcases (show i = 0 ∨ i = 1 ∨ i = 2 ∨ i = 3 ∨ i = 4 ∨ i = 5 ∨ i = 6 by omega) with rfl | rfl | rfl | rfl | rfl | rfl | rfl <;> decide
        omega
      by_cases han : B + j < n
      ·
        have hy2 : 0 < n - (B + j) := by omega
        have hy3 : ¬ n - (B + j) = 0 := by omega
        have hy4 : (((n - (B + j) : Nat) : Int) == 0) = false := by simp; omega
        have hy5 : (0 : Int) < ((n - (B + j) : Nat) : Int) := by omega
        have HQ : Hid (R = if j = 0 ∨ ¬ f (B + j) = 125 ∨ utf.len (valD 16 f j B 0) = 0 then nope f st else .ok (char (valD 16 f j B 0)) (B + j + 1)) := by unfold Hid; rw [← HR.out]; unfold hexO; rw [if_neg (by omega)]
        have HDG : Hid (j < 6 → ∀ W, Calls Tryz.prog 87 #[.int .u8 (f (B + j))] W fun e w' => e = .returned (.bool false) ∧ w' = W) := fun h6 W => by
          have h7 := HE.out h6
          have h8 : hexB (f (B + j)) = false := by cases hq : hexB (f (B + j)) with | true => exact absurd ⟨han, hq⟩ h7 | false => rfl
          have := rhexDigit_any (f (B + j)) W
          rw [h8] at this
          exact this
        clear HE HR
        by_cases hj6 : j < 6
        ·
          have hj7 : (j : Int) < 6 := by omega
          have DG := HDG.out hj6
          obtain ⟨⟨c0, c1, c2, z1, z2⟩, ⟨k0, k1, k2, k3, k4, k5, k6, k7⟩, ⟨f0, f1, f2, f3, f4, f5, f6, f7⟩⟩ := S0.cells
          have C := rest_lt S0 U0 han
          go_wp2_with fail
          refine C.mono ?_
          rintro e w1 ⟨gb1, go1, rfl, cx1, hg1, hh1, S1, U1⟩
          clear C S0 U0
          clear c0 c1 c2 z1 z2 k0 k1 k2 k3 k4 k5 k6 k7 f0 f1 f2 f3 f4 f5 f6 f7
          obtain ⟨⟨c0, c1, c2, z1, z2⟩, ⟨k0, k1, k2, k3, k4, k5, k6, k7⟩, ⟨f0, f1, f2, f3, f4, f5, f6, f7⟩⟩ := S1.cells
          have C := rest_lt S1 U1 han
          go_wp2_with fail
          refine C.mono ?_
          rintro e w2 ⟨gb2, go2, rfl, cx2, hg2, hh2, S2, U2⟩
          clear C S1 U1
          clear c0 c1 c2 z1 z2 k0 k1 k2 k3 k4 k5 k6 k7 f0 f1 f2 f3 f4 f5 f6 f7
          obtain ⟨⟨c0, c1, c2, z1, z2⟩, ⟨k0, k1, k2, k3, k4, k5, k6, k7⟩, ⟨f0, f1, f2, f3, f4, f5, f6, f7⟩⟩ := S2.cells
          go_wp2_with fail
          refine (DG _).mono ?_
          rintro e w' ⟨rfl, rfl⟩
          clear DG
          have C := rest_t S2 U2
          go_wp2_with fail
          refine C.mono ?_
          rintro e w3 ⟨rfl, S3, U3⟩
          clear C S2 U2
          clear c0 c1 c2 z1 z2 k0 k1 k2 k3 k4 k5 k6 k7 f0 f1 f2 f3 f4 f5 f6 f7
          obtain ⟨⟨c0, c1, c2, z1, z2⟩, ⟨k0, k1, k2, k3, k4, k5, k6, k7⟩, ⟨f0, f1, f2, f3, f4, f5, f6, f7⟩⟩ := S3.cells
          have HS1 : Hid (RT w3 rb tb (some ⟨b, off, none⟩) n cap f (B + j) k c p ⟨0, 0, 0, 0, [], false, st, 0⟩) := S3
          have HU1 : Hid (T2 rb tb w w3) := U3
          clear S3 U3
          clear c0 c1 c2 z1 z2 k0 k1 k2 k3 k4 k5 k6 k7 f0 f1 f2 f3 f4 f5 f6 f7
          go_wp2
          go_loopw [6, 7] (fun v s wr => ∃ i : Nat, i ≤ j ∧ s = .int .i64 i ∧ v = .int .i64 (valD 16 f i B 0) ∧ wr = w3) (fun _ s _ => j - (RowKit.intOf s).toNat)
          case atStart => exact ⟨0, Nat.zero_le _, rfl, rfl, rfl⟩
          case round =>
            obtain ⟨i, hi, rfl, rfl, hz⟩ := hrel
            subst hz
            obtain ⟨hv0, hv1⟩ := HV.out i hi
            by_cases hij : i < j
            ·
              have hij2 : (i : Int) < (j : Int) := by omega
              have hik : i < X.size := by omega
              have hat : ((X[i]'hik).toNat : Int) = f (B + i) := by
                have h1 := at8_bytes f HF.out B (B + j) i (by omega)
                rw [← HX.out, lin.at8_eq X i hik] at h1
                exact h1
              have hv2 := HV.out (i + 1) (by omega)
              rw [valD_snoc] at hv2
              have HVS : Hid (valD 16 f (i + 1) B 0 = valD 16 f i B 0 * 16 + dgV (f (B + i)) 16) := valD_snoc 16 f i B 0
              have hex := hex_val _ (HA.out i hij).2
              have DG := fun W => rdigit_any ((X[i]'hik).toNat : Int) W
              rw [hat] at DG
              obtain ⟨y, hy⟩ : ∃ y, f (B + i) = y := ⟨_, rfl⟩
              rw [hy] at hex hv2 HVS hat DG
              have hyr := HF.out (B + i)
              rw [hy] at hyr
              clear hy
              generalize valD 16 f i B 0 = V at *
              rcases hex with ⟨d1, d2⟩ | ⟨d1, d2, d3, d4⟩ | ⟨d1, d2, d3, d4, d5⟩
              ·
                rw [d1] at DG
                rw [d2] at HVS hv2
                have hy0 : 48 ≤ y := by unfold digitB at d1; simp at d1; omega
                
                have e48 : IntKind.u8.wrap (y - 48) = y - 48 := by rw [IntKind.wrap_u8]; omega
                have hVV : Hid (16 * V + (y - 48) = valD 16 f (i + 1) B 0) := by unfold Hid; rw [HVS.out]; omega
                clear HVS d2 d1
                go_wp2_with fail
                refine (DG _).mono ?_
                rintro e w' ⟨rfl, rfl⟩
                clear DG
                go_wp2
                exact ⟨⟨i + 1, by omega, by go_num, (by rw [← hVV.out]), by trivial⟩, by simp [RowKit.intOf]; omega⟩
              ·
                rw [d1] at DG
                rw [d4] at HVS hv2
                have hy0 : 48 ≤ y := by omega
                have m1 : 97 ≤ y := d2
                have e48 : IntKind.u8.wrap (y - 97) = y - 97 := by rw [IntKind.wrap_u8]; omega
                have hVV : Hid (16 * V + (y - 97) + 10 = valD 16 f (i + 1) B 0) := by unfold Hid; rw [HVS.out]; omega
                clear HVS d4 d1
                go_wp2_with fail
                refine (DG _).mono ?_
                rintro e w' ⟨rfl, rfl⟩
                clear DG
                go_wp2
                exact ⟨⟨i + 1, by omega, by go_num, (by rw [← hVV.out]), by trivial⟩, by simp [RowKit.intOf]; omega⟩
              ·
                rw [d1] at DG
                rw [d5] at HVS hv2
                have hy0 : 48 ≤ y := by omega
                have m1 : ¬ 97 ≤ y := by omega
                have e48 : IntKind.u8.wrap (y - 65) = y - 65 := by rw [IntKind.wrap_u8]; omega
                have hVV : Hid (16 * V + (y - 65) + 10 = valD 16 f (i + 1) B 0) := by unfold Hid; rw [HVS.out]; omega
                clear HVS d5 d1
                go_wp2_with fail
                refine (DG _).mono ?_
                rintro e w' ⟨rfl, rfl⟩
                clear DG
                go_wp2
                exact ⟨⟨i + 1, by omega, by go_num, (by rw [← hVV.out]), by trivial⟩, by simp [RowKit.intOf]; omega⟩
            ·
              obtain rfl : i = j := by omega
              have S0 := HS1.out
              have U0 := HU1.out
              clear HS1 HU1 HV HA HDG
              obtain ⟨V, hV⟩ : ∃ V, valD 16 f i B 0 = V := ⟨_, rfl⟩
              have HL := len_zero V (by omega)
              have HQ2 : Hid (R = if i = 0 ∨ ¬ f (B + i) = 125 ∨ (1114111 < V ∨ (55296 ≤ V ∧ V ≤ 57343)) then nope f st else .ok (char V) (B + i + 1)) := by
                unfold Hid; rw [HQ.out, hV]; simp only [HL]
              have NP : Hid ((nope f st : Out Tk) = .no 132 st) := by unfold Hid nope; rw [HST.out]
              rw [hV] at hv0 hv1 ⊢
              clear HQ HL hV
              by_cases h0 : i = 0
              ·
                subst h0
                obtain rfl : X = ⟨#[]⟩ := by rw [HX.out, show B + 0 = B from rfl, bytes_zero]; rfl
                obtain rfl : R = .no 132 st := by rw [HQ2.out, if_pos (.inl rfl), NP.out]
                clear HQ2 NP
                obtain ⟨⟨c0, c1, c2, z1, z2⟩, ⟨k0, k1, k2, k3, k4, k5, k6, k7⟩, ⟨f0, f1, f2, f3, f4, f5, f6, f7⟩⟩ := S0.cells
                have C := fail_t S0 U0 132 st
                go_wp2_with fail
                refine C.mono ?_
                rintro e w9 ⟨rfl, S9, U9⟩
                clear C
                go_wp2
                go_ret
                exact ⟨rfl, ⟨_, _, S9⟩, U9⟩
              ·
                have hxe : ¬ X.toList = [] := fun e => by
                  have h1 : X.toList.length = X.size := by rw [Lib.toList_data]; exact Array.length_toList
                  rw [e] at h1
                  simp at h1
                  omega
                have hxe2 : X.toList.isEmpty = false := by
                  cases hq : X.toList with
                  | nil => exact absurd hq hxe
                  | cons _ _ => rfl
                obtain ⟨yy, hyy⟩ : ∃ yy, f (B + i) = yy := ⟨_, rfl⟩
                have HQ3 : Hid (R = if i = 0 ∨ ¬ yy = 125 ∨ (1114111 < V ∨ (55296 ≤ V ∧ V ≤ 57343)) then nope f st else .ok (char V) (B + i + 1)) := by unfold Hid; rw [HQ2.out, hyy]
                have HYY : Hid (f (B + i) = yy) := hyy
                clear HQ2 hyy HX
                obtain ⟨⟨c0, c1, c2, z1, z2⟩, ⟨k0, k1, k2, k3, k4, k5, k6, k7⟩, ⟨f0, f1, f2, f3, f4, f5, f6, f7⟩⟩ := S0.cells
                have C := rest_lt S0 U0 han
                go_wp2_with fail
                refine C.mono ?_
                rintro e w1 ⟨gb1, go1, rfl, cx1, hg1, hh1, S1, U1⟩
                clear C S0 U0
                clear c0 c1 c2 z1 z2 k0 k1 k2 k3 k4 k5 k6 k7 f0 f1 f2 f3 f4 f5 f6 f7
                obtain ⟨⟨c0, c1, c2, z1, z2⟩, ⟨k0, k1, k2, k3, k4, k5, k6, k7⟩, ⟨f0, f1, f2, f3, f4, f5, f6, f7⟩⟩ := S1.cells
                rw [HYY.out] at cx1
                by_cases h125 : yy = 125
                ·
                  subst h125
                  rcases (show 1114111 < V ∨ (¬ 1114111 < V ∧ 55296 ≤ V ∧ V ≤ 57343) ∨ (¬ 1114111 < V ∧ V < 55296) ∨ (¬ 1114111 < V ∧ 57343 < V) from by omega) with v1 | ⟨v1, v2, v3⟩ | ⟨v1, v2⟩ | ⟨v1, v2⟩
                  ·
                    obtain rfl : R = .no 132 st := by rw [HQ3.out, if_pos (.inr (.inr (.inl v1))), NP.out]
                    clear HQ3 NP
                    have C := fail_t S1 U1 132 st
                    go_wp2_with fail
                    refine C.mono ?_
                    rintro e w9 ⟨rfl, S9, U9⟩
                    clear C
                    go_wp2
                    go_ret
                    exact ⟨rfl, ⟨_, _, S9⟩, U9⟩
                  ·
                    obtain rfl : R = .no 132 st := by rw [HQ3.out, if_pos (.inr (.inr (.inr ⟨v2, v3⟩))), NP.out]
                    clear HQ3 NP
                    have C := fail_t S1 U1 132 st
                    go_wp2_with fail
                    refine C.mono ?_
                    rintro e w9 ⟨rfl, S9, U9⟩
                    clear C
                    go_wp2
                    go_ret
                    exact ⟨rfl, ⟨_, _, S9⟩, U9⟩
                  ·
                    obtain rfl : R = .ok (char V) (B + i + 1) := by rw [HQ3.out, if_neg (by omega)]
                    clear HQ3 NP
                    have d1 : decide (1114111 < V) = false := by simp; omega
                    have d2 : decide (55296 ≤ V) = false := by simp; omega
                    have d3 : (55296 ≤ V) = False := by simp; omega
                    have ecast : ((B + i : Nat) : Int) = (B : Int) + (i : Int) := by omega
                    have S2 := S1.put1 (x := ((B + i : Nat) : Int) + 1) (a' := B + i + 1) (by omega) (by omega)
                    have U2 := T2.at U1 1 (.int .i64 (((B + i : Nat) : Int) + 1))
                    clear S1 U1
                    have S3 := S2.t0 1
                    have U3 := T2.put U2 0 (.int .i64 1)
                    clear S2 U2
                    have S4 := S3.t2 V
                    have U4 := T2.put U3 2 (.int .i64 V)
                    clear S3 U3
                    rw [ecast] at S4 U4 c1
                    go_wp2
                    go_ret
                    exact ⟨rfl, S4, U4⟩
                  ·
                    obtain rfl : R = .ok (char V) (B + i + 1) := by rw [HQ3.out, if_neg (by omega)]
                    clear HQ3 NP
                    have d1 : decide (1114111 < V) = false := by simp; omega
                    have d2 : decide (55296 ≤ V) = true := by simp; omega
                    have d3 : decide (V ≤ 57343) = false := by simp; omega
                    have d4 : (V ≤ 57343) = False := by simp; omega
                    have v4 : 55296 ≤ V := by omega
                    have ecast : ((B + i : Nat) : Int) = (B : Int) + (i : Int) := by omega
                    have S2 := S1.put1 (x := ((B + i : Nat) : Int) + 1) (a' := B + i + 1) (by omega) (by omega)
                    have U2 := T2.at U1 1 (.int .i64 (((B + i : Nat) : Int) + 1))
                    clear S1 U1
                    have S3 := S2.t0 1
                    have U3 := T2.put U2 0 (.int .i64 1)
                    clear S2 U2
                    have S4 := S3.t2 V
                    have U4 := T2.put U3 2 (.int .i64 V)
                    clear S3 U3
                    rw [ecast] at S4 U4 c1
                    go_wp2
                    go_ret
                    exact ⟨rfl, S4, U4⟩
                ·
                  obtain rfl : R = .no 132 st := by rw [HQ3.out, if_pos (.inr (.inl h125)), NP.out]
                  clear HQ3 NP
                  have m1 : (yy != 125) = true := by simp [h125]
                  have m2 : (yy == 125) = false := by simp [h125]
                  have C := fail_t S1 U1 132 st
                  go_wp2_with fail
                  refine C.mono ?_
                  rintro e w9 ⟨rfl, S9, U9⟩
                  clear C
                  go_wp2
                  go_ret
                  exact ⟨rfl, ⟨_, _, S9⟩, U9⟩
        ·
          have hj7 : ¬ (j : Int) < 6 := by omega
          obtain ⟨⟨c0, c1, c2, z1, z2⟩, ⟨k0, k1, k2, k3, k4, k5, k6, k7⟩, ⟨f0, f1, f2, f3, f4, f5, f6, f7⟩⟩ := S0.cells
          have C := rest_t S0 U0
          go_wp2_with fail
          refine C.mono ?_
          rintro e w1 ⟨rfl, S1, U1⟩
          clear C S0 U0
          clear c0 c1 c2 z1 z2 k0 k1 k2 k3 k4 k5 k6 k7 f0 f1 f2 f3 f4 f5 f6 f7
          obtain ⟨⟨c0, c1, c2, z1, z2⟩, ⟨k0, k1, k2, k3, k4, k5, k6, k7⟩, ⟨f0, f1, f2, f3, f4, f5, f6, f7⟩⟩ := S1.cells
          have HS1 : Hid (RT w1 rb tb (some ⟨b, off, none⟩) n cap f (B + j) k c p ⟨0, 0, 0, 0, [], false, st, 0⟩) := S1
          have HU1 : Hid (T2 rb tb w w1) := U1
          clear S1 U1
          clear c0 c1 c2 z1 z2 k0 k1 k2 k3 k4 k5 k6 k7 f0 f1 f2 f3 f4 f5 f6 f7
          go_wp2
          go_loopw [6, 7] (fun v s wr => ∃ i : Nat, i ≤ j ∧ s = .int .i64 i ∧ v = .int .i64 (valD 16 f i B 0) ∧ wr = w1) (fun _ s _ => j - (RowKit.intOf s).toNat)
          case atStart => exact ⟨0, Nat.zero_le _, rfl, rfl, rfl⟩
          case round =>
            obtain ⟨i, hi, rfl, rfl, hz⟩ := hrel
            subst hz
            obtain ⟨hv0, hv1⟩ := HV.out i hi
            by_cases hij : i < j
            ·
              have hij2 : (i : Int) < (j : Int) := by omega
              have hik : i < X.size := by omega
              have hat : ((X[i]'hik).toNat : Int) = f (B + i) := by
                have h1 := at8_bytes f HF.out B (B + j) i (by omega)
                rw [← HX.out, lin.at8_eq X i hik] at h1
                exact h1
              have hv2 := HV.out (i + 1) (by omega)
              rw [valD_snoc] at hv2
              have HVS : Hid (valD 16 f (i + 1) B 0 = valD 16 f i B 0 * 16 + dgV (f (B + i)) 16) := valD_snoc 16 f i B 0
              have hex := hex_val _ (HA.out i hij).2
              have DG := fun W => rdigit_any ((X[i]'hik).toNat : Int) W
              rw [hat] at DG
              obtain ⟨y, hy⟩ : ∃ y, f (B + i) = y := ⟨_, rfl⟩
              rw [hy] at hex hv2 HVS hat DG
              have hyr := HF.out (B + i)
              rw [hy] at hyr
              clear hy
              generalize valD 16 f i B 0 = V at *
              rcases hex with ⟨d1, d2⟩ | ⟨d1, d2, d3, d4⟩ | ⟨d1, d2, d3, d4, d5⟩
              ·
                rw [d1] at DG
                rw [d2] at HVS hv2
                have hy0 : 48 ≤ y := by unfold digitB at d1; simp at d1; omega
                
                have e48 : IntKind.u8.wrap (y - 48) = y - 48 := by rw [IntKind.wrap_u8]; omega
                have hVV : Hid (16 * V + (y - 48) = valD 16 f (i + 1) B 0) := by unfold Hid; rw [HVS.out]; omega
                clear HVS d2 d1
                go_wp2_with fail
                refine (DG _).mono ?_
                rintro e w' ⟨rfl, rfl⟩
                clear DG
                go_wp2
                exact ⟨⟨i + 1, by omega, by go_num, (by rw [← hVV.out]), by trivial⟩, by simp [RowKit.intOf]; omega⟩
              ·
                rw [d1] at DG
                rw [d4] at HVS hv2
                have hy0 : 48 ≤ y := by omega
                have m1 : 97 ≤ y := d2
                have e48 : IntKind.u8.wrap (y - 97) = y - 97 := by rw [IntKind.wrap_u8]; omega
                have hVV : Hid (16 * V + (y - 97) + 10 = valD 16 f (i + 1) B 0) := by unfold Hid; rw [HVS.out]; omega
                clear HVS d4 d1
                go_wp2_with fail
                refine (DG _).mono ?_
                rintro e w' ⟨rfl, rfl⟩
                clear DG
                go_wp2
                exact ⟨⟨i + 1, by omega, by go_num, (by rw [← hVV.out]), by trivial⟩, by simp [RowKit.intOf]; omega⟩
              ·
                rw [d1] at DG
                rw [d5] at HVS hv2
                have hy0 : 48 ≤ y := by omega
                have m1 : ¬ 97 ≤ y := by omega
                have e48 : IntKind.u8.wrap (y - 65) = y - 65 := by rw [IntKind.wrap_u8]; omega
                have hVV : Hid (16 * V + (y - 65) + 10 = valD 16 f (i + 1) B 0) := by unfold Hid; rw [HVS.out]; omega
                clear HVS d5 d1
                go_wp2_with fail
                refine (DG _).mono ?_
                rintro e w' ⟨rfl, rfl⟩
                clear DG
                go_wp2
                exact ⟨⟨i + 1, by omega, by go_num, (by rw [← hVV.out]), by trivial⟩, by simp [RowKit.intOf]; omega⟩
            ·
              obtain rfl : i = j := by omega
              have S0 := HS1.out
              have U0 := HU1.out
              clear HS1 HU1 HV HA HDG
              obtain ⟨V, hV⟩ : ∃ V, valD 16 f i B 0 = V := ⟨_, rfl⟩
              have HL := len_zero V (by omega)
              have HQ2 : Hid (R = if i = 0 ∨ ¬ f (B + i) = 125 ∨ (1114111 < V ∨ (55296 ≤ V ∧ V ≤ 57343)) then nope f st else .ok (char V) (B + i + 1)) := by
                unfold Hid; rw [HQ.out, hV]; simp only [HL]
              have NP : Hid ((nope f st : Out Tk) = .no 132 st) := by unfold Hid nope; rw [HST.out]
              rw [hV] at hv0 hv1 ⊢
              clear HQ HL hV
              by_cases h0 : i = 0
              ·
                exfalso; omega
              ·
                have hxe : ¬ X.toList = [] := fun e => by
                  have h1 : X.toList.length = X.size := by rw [Lib.toList_data]; exact Array.length_toList
                  rw [e] at h1
                  simp at h1
                  omega
                have hxe2 : X.toList.isEmpty = false := by
                  cases hq : X.toList with
                  | nil => exact absurd hq hxe
                  | cons _ _ => rfl
                obtain ⟨yy, hyy⟩ : ∃ yy, f (B + i) = yy := ⟨_, rfl⟩
                have HQ3 : Hid (R = if i = 0 ∨ ¬ yy = 125 ∨ (1114111 < V ∨ (55296 ≤ V ∧ V ≤ 57343)) then nope f st else .ok (char V) (B + i + 1)) := by unfold Hid; rw [HQ2.out, hyy]
                have HYY : Hid (f (B + i) = yy) := hyy
                clear HQ2 hyy HX
                obtain ⟨⟨c0, c1, c2, z1, z2⟩, ⟨k0, k1, k2, k3, k4, k5, k6, k7⟩, ⟨f0, f1, f2, f3, f4, f5, f6, f7⟩⟩ := S0.cells
                have C := rest_lt S0 U0 han
                go_wp2_with fail
                refine C.mono ?_
                rintro e w1 ⟨gb1, go1, rfl, cx1, hg1, hh1, S1, U1⟩
                clear C S0 U0
                clear c0 c1 c2 z1 z2 k0 k1 k2 k3 k4 k5 k6 k7 f0 f1 f2 f3 f4 f5 f6 f7
                obtain ⟨⟨c0, c1, c2, z1, z2⟩, ⟨k0, k1, k2, k3, k4, k5, k6, k7⟩, ⟨f0, f1, f2, f3, f4, f5, f6, f7⟩⟩ := S1.cells
                rw [HYY.out] at cx1
                by_cases h125 : yy = 125
                ·
                  subst h125
                  rcases (show 1114111 < V ∨ (¬ 1114111 < V ∧ 55296 ≤ V ∧ V ≤ 57343) ∨ (¬ 1114111 < V ∧ V < 55296) ∨ (¬ 1114111 < V ∧ 57343 < V) from by omega) with v1 | ⟨v1, v2, v3⟩ | ⟨v1, v2⟩ | ⟨v1, v2⟩
                  ·
                    obtain rfl : R = .no 132 st := by rw [HQ3.out, if_pos (.inr (.inr (.inl v1))), NP.out]
                    clear HQ3 NP
                    have C := fail_t S1 U1 132 st
                    go_wp2_with fail
                    refine C.mono ?_
                    rintro e w9 ⟨rfl, S9, U9⟩
                    clear C
                    go_wp2
                    go_ret
                    exact ⟨rfl, ⟨_, _, S9⟩, U9⟩
                  ·
                    obtain rfl : R = .no 132 st := by rw [HQ3.out, if_pos (.inr (.inr (.inr ⟨v2, v3⟩))), NP.out]
                    clear HQ3 NP
                    have C := fail_t S1 U1 132 st
                    go_wp2_with fail
                    refine C.mono ?_
                    rintro e w9 ⟨rfl, S9, U9⟩
                    clear C
                    go_wp2
                    go_ret
                    exact ⟨rfl, ⟨_, _, S9⟩, U9⟩
                  ·
                    obtain rfl : R = .ok (char V) (B + i + 1) := by rw [HQ3.out, if_neg (by omega)]
                    clear HQ3 NP
                    have d1 : decide (1114111 < V) = false := by simp; omega
                    have d2 : decide (55296 ≤ V) = false := by simp; omega
                    have d3 : (55296 ≤ V) = False := by simp; omega
                    have ecast : ((B + i : Nat) : Int) = (B : Int) + (i : Int) := by omega
                    have S2 := S1.put1 (x := ((B + i : Nat) : Int) + 1) (a' := B + i + 1) (by omega) (by omega)
                    have U2 := T2.at U1 1 (.int .i64 (((B + i : Nat) : Int) + 1))
                    clear S1 U1
                    have S3 := S2.t0 1
                    have U3 := T2.put U2 0 (.int .i64 1)
                    clear S2 U2
                    have S4 := S3.t2 V
                    have U4 := T2.put U3 2 (.int .i64 V)
                    clear S3 U3
                    rw [ecast] at S4 U4 c1
                    go_wp2
                    go_ret
                    exact ⟨rfl, S4, U4⟩
                  ·
                    obtain rfl : R = .ok (char V) (B + i + 1) := by rw [HQ3.out, if_neg (by omega)]
                    clear HQ3 NP
                    have d1 : decide (1114111 < V) = false := by simp; omega
                    have d2 : decide (55296 ≤ V) = true := by simp; omega
                    have d3 : decide (V ≤ 57343) = false := by simp; omega
                    have d4 : (V ≤ 57343) = False := by simp; omega
                    have v4 : 55296 ≤ V := by omega
                    have ecast : ((B + i : Nat) : Int) = (B : Int) + (i : Int) := by omega
                    have S2 := S1.put1 (x := ((B + i : Nat) : Int) + 1) (a' := B + i + 1) (by omega) (by omega)
                    have U2 := T2.at U1 1 (.int .i64 (((B + i : Nat) : Int) + 1))
                    clear S1 U1
                    have S3 := S2.t0 1
                    have U3 := T2.put U2 0 (.int .i64 1)
                    clear S2 U2
                    have S4 := S3.t2 V
                    have U4 := T2.put U3 2 (.int .i64 V)
                    clear S3 U3
                    rw [ecast] at S4 U4 c1
                    go_wp2
                    go_ret
                    exact ⟨rfl, S4, U4⟩
                ·
                  obtain rfl : R = .no 132 st := by rw [HQ3.out, if_pos (.inr (.inl h125)), NP.out]
                  clear HQ3 NP
                  have m1 : (yy != 125) = true := by simp [h125]
                  have m2 : (yy == 125) = false := by simp [h125]
                  have C := fail_t S1 U1 132 st
                  go_wp2_with fail
                  refine C.mono ?_
                  rintro e w9 ⟨rfl, S9, U9⟩
                  clear C
                  go_wp2
                  go_ret
                  exact ⟨rfl, ⟨_, _, S9⟩, U9⟩
      ·
        obtain rfl : R = .no 130 n := by rw [← HR.out]; unfold hexO; rw [if_pos (by omega)]
        have hy2 : n - (B + j) = 0 := by omega
        have hy3 : ((n - (B + j) : Nat) : Int) = 0 := by omega
        have hy4 : (((n - (B + j) : Nat) : Int) == 0) = true := by simp; omega
        clear HR HE HA HV
        by_cases hj6 : (j : Int) < 6
        ·
          obtain ⟨⟨c0, c1, c2, z1, z2⟩, ⟨k0, k1, k2, k3, k4, k5, k6, k7⟩, ⟨f0, f1, f2, f3, f4, f5, f6, f7⟩⟩ := S0.cells
          have C := rest_t S0 U0
          go_wp2_with fail
          refine C.mono ?_
          rintro e w1 ⟨rfl, S1, U1⟩
          clear C S0 U0
          clear c0 c1 c2 z1 z2 k0 k1 k2 k3 k4 k5 k6 k7 f0 f1 f2 f3 f4 f5 f6 f7
          obtain ⟨⟨c0, c1, c2, z1, z2⟩, ⟨k0, k1, k2, k3, k4, k5, k6, k7⟩, ⟨f0, f1, f2, f3, f4, f5, f6, f7⟩⟩ := S1.cells
          have C := rest_t S1 U1
          go_wp2_with fail
          refine C.mono ?_
          rintro e w2 ⟨rfl, S2, U2⟩
          clear C S1 U1
          clear c0 c1 c2 z1 z2 k0 k1 k2 k3 k4 k5 k6 k7 f0 f1 f2 f3 f4 f5 f6 f7
          obtain ⟨⟨c0, c1, c2, z1, z2⟩, ⟨k0, k1, k2, k3, k4, k5, k6, k7⟩, ⟨f0, f1, f2, f3, f4, f5, f6, f7⟩⟩ := S2.cells
          have C := fail_t S2 U2 130 n
          go_wp2_with fail
          refine C.mono ?_
          rintro e w9 ⟨rfl, S9, U9⟩
          clear C
          go_wp2
          go_ret
          exact ⟨rfl, ⟨_, _, S9⟩, U9⟩
        ·
          obtain ⟨⟨c0, c1, c2, z1, z2⟩, ⟨k0, k1, k2, k3, k4, k5, k6, k7⟩, ⟨f0, f1, f2, f3, f4, f5, f6, f7⟩⟩ := S0.cells
          have C := rest_t S0 U0
          go_wp2_with fail
          refine C.mono ?_
          rintro e w1 ⟨rfl, S1, U1⟩
          clear C S0 U0
          clear c0 c1 c2 z1 z2 k0 k1 k2 k3 k4 k5 k6 k7 f0 f1 f2 f3 f4 f5 f6 f7
          obtain ⟨⟨c0, c1, c2, z1, z2⟩, ⟨k0, k1, k2, k3, k4, k5, k6, k7⟩, ⟨f0, f1, f2, f3, f4, f5, f6, f7⟩⟩ := S1.cells
          have C := fail_t S1 U1 130 n
          go_wp2_with fail
          refine C.mono ?_
          rintro e w9 ⟨rfl, S9, U9⟩
          clear C
          go_wp2
          go_ret
          exact ⟨rfl, ⟨_, _, S9⟩, U9⟩
set_option maxHeartbeats 4000000 in
set_option maxRecDepth 100000 in
theorem rhex (rb tb : Nat) (ao : Option Addr) (n cap : Nat) (f : Nat → Int) (a k : Nat) (c p : Int) (st : Nat) (w : World) (h : RT w rb tb ao n cap f a k c p ⟨0, 0, 0, 0, [], false, st, 0⟩) (hst : noneC f st = 132) :
    Calls Tryz.prog 49 #[.pointer (some ⟨rb, 0, none⟩), .pointer (some ⟨tb, 0, none⟩)] w (REt w rb tb ao n cap f k c p st (hex f n st a)) := by
  have ha := h.rs.aa
  unfold hex
  by_cases hl : a < n
  · by_cases hc : f a = 123
    · rw [want_lt f n hl hc, bind_ok, hex_ref f n st (a + 1) (by omega)]
      exact rhex_go rb tb ao n cap f a k c p st w h hst hl (by rw [has_1]; exact at_t hl hc)
    · rw [want_no f n hl hc]
      unfold nope
      rw [bind_no, hst]
      exact rhex_no rb tb false ao n cap f a k c p st w h hl (by rw [has_1]; exact at_f hc)
  · rw [want_ge f n hl, bind_no]
    exact rhex_end rb tb false ao n cap f a k c p st w h (by omega)
end Go.Proofs.YtlgkfnecahgedaaGreatDoor.tok
end
