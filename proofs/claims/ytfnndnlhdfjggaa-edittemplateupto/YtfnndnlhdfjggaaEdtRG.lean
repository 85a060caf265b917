/- The document's group: its loops. -/
import Derived.Test.YtfnndnlhdfjggaaEdtRGroup
set_option linter.unusedVariables false
set_option linter.unusedSimpArgs false
namespace Go.Proofs.Ytfnndnlhdfjggaa.edt
open Go.RowKit

set_option maxHeartbeats 4000000 in
theorem rgroup_some (d : List Int) (groups : Int) (aT : Option Addr) (nT cT : Nat) (T : List ByteArray) (w : World) (hr : ∀ x ∈ d, 0 ≤ x ∧ x ≤ 255) (hd : d.length ≤ 1048576) (hd1 : 1 ≤ d.length) (hT : TS w aT nT cT T) :
    Calls Try.prog 27 #[.string (strOfNums d), .int .i64 groups, .slice aT nT cT] w fun e w' => e = .returned (.tuple #[.int .i64 (grpV d groups T).1, .int .i64 (grpV d groups T).2]) ∧ w' = w := by
  have hTn := hT.nc
  have hTm := hT.cm
  have HT : Hid (TS w aT nT cT T) := hT
  have HG : Hid (∀ p (h : p < (strOfNums d).size), (((strOfNums d)[p]'h).toNat : Int) = d.getD p 0) := str_get d hr
  have HSZ : Hid ((strOfNums d).size = d.length) := str_size d
  have HR : Hid (∀ x ∈ d, 0 ≤ x ∧ x ≤ 255) := hr
  obtain ⟨S, hS⟩ : ∃ S, strOfNums d = S := ⟨_, rfl⟩
  have HS : Hid (strOfNums d = S) := hS
  rw [hS] at HG HSZ
  rw [hS]
  obtain ⟨V1, hV1⟩ : ∃ x, (grpV d groups T).1 = x := ⟨_, rfl⟩
  obtain ⟨V2, hV2⟩ : ∃ x, (grpV d groups T).2 = x := ⟨_, rfl⟩
  have HV : Hid (grpV d groups T = (V1, V2)) := by show grpV d groups T = (V1, V2); rw [← hV1, ← hV2]
  rw [hV1, hV2]
  have hsz : S.size = d.length := HSZ.out
  obtain ⟨M, hM⟩ : ∃ M, d.length = M := ⟨_, rfl⟩
  have HM : Hid (d.length = M) := hM
  rw [hM] at hsz hd hd1
  clear hT hr hS hV1 hV2 hM HSZ
  have hM1 : (1 : Int) ≤ (M : Int) := by omega
  go_enter Try.func27, Try.ntmps27
  go_wp2
  go_loopw [8, 9, 10, 11] (fun n D N i wr => ∃ (k : Nat) (nv : Int) (Db Nb : Bool), k ≤ M ∧ i = .int .i64 k ∧ n = .int .i64 nv ∧ D = .bool Db ∧ N = .bool Nb ∧ wr = w ∧ 0 ≤ nv ∧ nv < 1000 ∧ Hid (Db = dgK d k) ∧ Hid (Nb = nmK d k) ∧ Hid (Db = true → nv = val (d.take k))) (fun _ _ _ i _ => M - (intOf i).toNat)
  case atStart =>
    refine ⟨0, 0, decide (M ≤ 3), true, Nat.zero_le _, rfl, rfl, ?_, rfl, rfl, by omega, by omega, ?_, ?_, fun _ => rfl⟩
    · first | rfl | (congr 1; rw [decide_eq_decide]; omega)
    · show decide (M ≤ 3) = dgK d 0
      unfold dgK; rw [HM.out]; simp; omega
    · show true = nmK d 0
      unfold nmK; rw [HM.out]; simp; omega
  case round =>
    obtain ⟨k, nv, Db, Nb, hk, rfl, rfl, rfl, rfl, rfl, hn0, hn1, HD, HN, HVV⟩ := hrel
    by_cases hlt : k < M
    · have hkl : k < d.length := by rw [HM.out]; exact hlt
      have hks : k < S.size := by omega
      have hx := HG.out k hks
      have HD2 : Hid (dgK d (k + 1) = (Db && dg (d.getD k 0))) := by show dgK d (k + 1) = _; rw [dgK_succ d k hkl, HD.out]
      have HN2 : Hid (nmK d (k + 1) = (Nb && (lt_ (d.getD k 0) || (dg (d.getD k 0) && decide (0 < k))))) := by show nmK d (k + 1) = _; rw [nmK_succ d k, HN.out]
      have HV2 : Hid (Db = true → val (d.take (k + 1)) = 10 * nv + (d.getD k 0 - 48)) := fun h1 => by rw [take_snoc d k 0 hkl, val_snoc, HVV.out h1]
      have hnb : Db = true → nv < 100 := fun h1 => by
        have h2 := HD.out
        rw [h1] at h2
        unfold dgK at h2
        have h3 := h2.symm
        rw [Bool.and_eq_true, Bool.and_eq_true, decide_eq_true_iff, decide_eq_true_iff, List.all_eq_true] at h3
        have h4 := (val_le _ (d.take k) rfl h3.2).2
        rw [HVV.out h1]
        refine Int.lt_of_lt_of_le h4 ?_
        have hk3 : (d.take k).length ≤ 2 := by rw [List.length_take]; omega
        generalize (d.take k).length = m at hk3
        match m, hk3 with
        | 0, _ => decide
        | 1, _ => decide
        | 2, _ => decide
      have hxr := HR.out (d.getD k 0) (by rw [List.getD_eq_getElem?_getD, List.getElem?_eq_getElem hkl]; exact List.getElem_mem _)
      have hlt' : (k : Int) < (M : Int) := by omega
      clear HD HN HVV
      generalize d.getD k 0 = x at *
      have DX := fun W => rdigit_any x W
      rcases (show (97 ≤ x ∧ x ≤ 122) ∨ (65 ≤ x ∧ x ≤ 90) ∨ (x = 95) ∨ (48 ≤ x ∧ x ≤ 57) ∨ (¬ (97 ≤ x ∧ x ≤ 122) ∧ ¬ (65 ≤ x ∧ x ≤ 90) ∧ ¬ x = 95 ∧ ¬ (48 ≤ x ∧ x ≤ 57)) from by omega) with hc | hc | hc | hc | hc
      · have hlt9 : lt_ x = true := by unfold lt_; simp; omega
        have hdg9 : dg x = false := by unfold dg; simp; omega
        have h95 : (x == 95) = false := by simp; omega
        simp only [hdg9] at DX
        rw [hlt9, hdg9] at HN2
        rw [hdg9] at HD2
        cases Db <;> cases Nb <;> (try have hnb2 := hnb rfl) <;> clear hnb <;> go_wp2_with (go_at_call 25; refine (DX _).mono ?_; rintro e w' ⟨rfl, hw⟩; subst hw)
        all_goals
          go_roundw
          case rel => exact ⟨k + 1, _, _, _, by omega, by go_num, rfl, rfl, rfl, by first | trivial | rfl, by omega, by omega, HD2.out.symm, (by show _ = nmK d (k + 1); rw [HN2.out]; first | rfl | (simp [h95]; done) | (rw [Bool.eq_iff_iff]; simp; omega)), fun h => by first | (cases h; done) | exact (HV2.out (by first | rfl | trivial)).symm⟩
          case measure => simp [intOf]; omega
      · have hlt9 : lt_ x = true := by unfold lt_; simp; omega
        have hdg9 : dg x = false := by unfold dg; simp; omega
        have h95 : (x == 95) = false := by simp; omega
        simp only [hdg9] at DX
        rw [hlt9, hdg9] at HN2
        rw [hdg9] at HD2
        cases Db <;> cases Nb <;> (try have hnb2 := hnb rfl) <;> clear hnb <;> go_wp2_with (go_at_call 25; refine (DX _).mono ?_; rintro e w' ⟨rfl, hw⟩; subst hw)
        all_goals
          go_roundw
          case rel => exact ⟨k + 1, _, _, _, by omega, by go_num, rfl, rfl, rfl, by first | trivial | rfl, by omega, by omega, HD2.out.symm, (by show _ = nmK d (k + 1); rw [HN2.out]; first | rfl | (simp [h95]; done) | (rw [Bool.eq_iff_iff]; simp; omega)), fun h => by first | (cases h; done) | exact (HV2.out (by first | rfl | trivial)).symm⟩
          case measure => simp [intOf]; omega
      · subst hc
        have hlt9 : lt_ 95 = true := by decide
        have hdg9 : dg 95 = false := by decide
        have h95 : ((95 : Int) == 95) = true := rfl
        simp only [hdg9] at DX
        rw [hlt9, hdg9] at HN2
        rw [hdg9] at HD2
        cases Db <;> cases Nb <;> (try have hnb2 := hnb rfl) <;> clear hnb <;> go_wp2_with (go_at_call 25; refine (DX _).mono ?_; rintro e w' ⟨rfl, hw⟩; subst hw)
        all_goals
          go_roundw
          case rel => exact ⟨k + 1, _, _, _, by omega, by go_num, rfl, rfl, rfl, by first | trivial | rfl, by omega, by omega, HD2.out.symm, (by show _ = nmK d (k + 1); rw [HN2.out]; first | rfl | (simp [h95]; done) | (rw [Bool.eq_iff_iff]; simp; omega)), fun h => by first | (cases h; done) | exact (HV2.out (by first | rfl | trivial)).symm⟩
          case measure => simp [intOf]; omega
      · have hlt9 : lt_ x = false := by unfold lt_; simp; omega
        have hdg9 : dg x = true := by unfold dg; simp; omega
        have h95 : (x == 95) = false := by simp; omega
        simp only [hdg9] at DX
        rw [hlt9, hdg9] at HN2
        rw [hdg9] at HD2
        cases Db <;> cases Nb <;> (try have hnb2 := hnb rfl) <;> clear hnb <;> go_wp2_with (go_at_call 25; refine (DX _).mono ?_; rintro e w' ⟨rfl, hw⟩; subst hw)
        all_goals
          go_roundw
          case rel => exact ⟨k + 1, _, _, _, by omega, by go_num, rfl, rfl, rfl, by first | trivial | rfl, by omega, by omega, HD2.out.symm, (by show _ = nmK d (k + 1); rw [HN2.out]; first | rfl | (simp [h95]; done) | (rw [Bool.eq_iff_iff]; simp; omega)), fun h => by first | (cases h; done) | exact (HV2.out (by first | rfl | trivial)).symm⟩
          case measure => simp [intOf]; omega
      · have hlt9 : lt_ x = false := by unfold lt_; simp; omega
        have hdg9 : dg x = false := by unfold dg; simp; omega
        have h95 : (x == 95) = false := by simp; omega
        simp only [hdg9] at DX
        rw [hlt9, hdg9] at HN2
        rw [hdg9] at HD2
        cases Db <;> cases Nb <;> (try have hnb2 := hnb rfl) <;> clear hnb <;> go_wp2_with (go_at_call 25; refine (DX _).mono ?_; rintro e w' ⟨rfl, hw⟩; subst hw)
        all_goals
          go_roundw
          case rel => exact ⟨k + 1, _, _, _, by omega, by go_num, rfl, rfl, rfl, by first | trivial | rfl, by omega, by omega, HD2.out.symm, (by show _ = nmK d (k + 1); rw [HN2.out]; first | rfl | (simp [h95]; done) | (rw [Bool.eq_iff_iff]; simp; omega)), fun h => by first | (cases h; done) | exact (HV2.out (by first | rfl | trivial)).symm⟩
          case measure => simp [intOf]; omega
    · obtain rfl : k = M := by omega
      have HD2 : Hid (Db = dgK d d.length) := by rw [HM.out]; exact HD.out
      have HN2 : Hid (Nb = nmK d d.length) := by rw [HM.out]; exact HN.out
      have HVT : Hid (Db = true → nv = val d) := fun h => by rw [HVV.out h, List.take_of_length_le (by rw [HM.out]; exact Nat.le_refl _)]
      clear HD HN HVV
      cases Db with
      | true =>
        have hnv := HVT.out rfl
        have hv := HV.out
        unfold grpV at hv
        rw [if_pos HD2.out.symm] at hv
        by_cases hg : groups < nv
        · rw [if_pos (by rw [← hnv]; exact hg)] at hv
          have HR1 : Hid (V1 = 0 ∧ V2 = 151) := ⟨(congrArg Prod.fst hv).symm, (congrArg Prod.snd hv).symm⟩
          clear hv hnv HVT
          go_wp2
          go_ret2
          exact ⟨by rw [HR1.out.1, HR1.out.2]; rfl, rfl⟩
        · rw [if_neg (by rw [← hnv]; exact hg)] at hv
          have HR1 : Hid (V1 = nv ∧ V2 = 0) := ⟨by rw [hnv]; exact (congrArg Prod.fst hv).symm, (congrArg Prod.snd hv).symm⟩
          clear hv hnv HVT
          go_wp2
          go_ret2
          exact ⟨by rw [HR1.out.1, HR1.out.2]; rfl, rfl⟩
      | false =>
        have hv := HV.out
        unfold grpV at hv
        rw [if_neg (by rw [← HD2.out]; decide)] at hv
        cases Nb with
        | false =>
          rw [if_neg (by rw [← HN2.out]; decide)] at hv
          have HR1 : Hid (V1 = 0 ∧ V2 = 220) := ⟨(congrArg Prod.fst hv).symm, (congrArg Prod.snd hv).symm⟩
          clear hv HVT
          go_wp2
          go_ret2
          exact ⟨by rw [HR1.out.1, HR1.out.2]; rfl, rfl⟩
        | true =>
          rw [if_pos HN2.out.symm, HS.out] at hv
          have HVV : Hid ((if sx S (T.drop 1) = -1 then ((0 : Int), (151 : Int)) else (sx S (T.drop 1) + 1, 0)) = (V1, V2)) := hv
          clear hv HVT
          go_wp2
          go_loopw [85] (fun i wq => ∃ j : Nat, j ≤ nT ∧ i = .int .i64 j ∧ wq = wr ∧ Hid (1 ≤ j → sx S (T.drop 1) = if sx S (T.drop j) = -1 then -1 else sx S (T.drop j) + (j - 1 : Nat))) (fun i _ => nT - (intOf i).toNat)
          case atStart => exact ⟨0, Nat.zero_le _, rfl, rfl, fun h => by omega⟩
          case round =>
            obtain ⟨j, hj, rfl, rfl, HK⟩ := hrel
            have hTl := HT.out.len
            by_cases hjl : j < nT
            · obtain ⟨b, off, rfl, hc⟩ := HT.out.at_ (by omega)
              have hck := hc j hjl
              by_cases h0 : j = 0
              · subst h0
                rw [Nat.add_zero] at hck
                have HK3 : Hid (1 ≤ 0 + 1 → sx S (T.drop 1) = if sx S (T.drop (0 + 1)) = -1 then -1 else sx S (T.drop (0 + 1)) + (0 + 1 - 1 : Nat)) := fun _ => by
                  rw [Nat.zero_add]; split <;> omega
                clear hc HK
                generalize T.getD 0 .empty = X at *
                go_wp2
                go_roundw
                case rel => exact ⟨0 + 1, by omega, by go_num, by first | trivial | rfl, HK3⟩
                case measure => simp [intOf]; omega
              · have hj0 : (0 : Int) < (j : Int) := by omega
                by_cases hs : S = T.getD j .empty
                · have HX : Hid (sx S (T.drop 1) + 1 = j ∧ ¬ sx S (T.drop 1) = -1) := by
                    have h1 := HK.out (by omega)
                    rw [drop_cons T j .empty (by omega)] at h1
                    have e0 : sx S (T.getD j .empty :: T.drop (j + 1)) = 0 := by show (if S = T.getD j .empty then 0 else _) = 0; rw [if_pos hs]
                    rw [e0, if_neg (by decide)] at h1
                    exact ⟨by omega, by omega⟩
                  rw [← hs] at hck
                  have hv := HVV.out
                  rw [if_neg HX.out.2, HX.out.1] at hv
                  have HR1 : Hid (V1 = j ∧ V2 = 0) := ⟨(congrArg Prod.fst hv).symm, (congrArg Prod.snd hv).symm⟩
                  clear hc HK hs hv HVV
                  go_wp2
                  go_ret2
                  exact ⟨by rw [HR1.out.1, HR1.out.2]; rfl, rfl⟩
                · have HK3 : Hid (1 ≤ j + 1 → sx S (T.drop 1) = if sx S (T.drop (j + 1)) = -1 then -1 else sx S (T.drop (j + 1)) + (j + 1 - 1 : Nat)) := fun _ => sx_up S T j (by omega) (by omega) hs (HK.out (by omega))
                  clear hc HK
                  generalize T.getD j .empty = X at *
                  have hs2 : (X.toList == S.toList) = false := str_ne (fun h => hs h.symm)
                  go_wp2
                  go_roundw
                  case rel => exact ⟨j + 1, by omega, by go_num, by first | trivial | rfl, HK3⟩
                  case measure => simp [intOf]; omega
            · obtain rfl : j = nT := by omega
              have HX : Hid (sx S (T.drop 1) = -1) := by
                show sx S (T.drop 1) = -1
                rcases Nat.eq_zero_or_pos j with h0 | h0
                · rw [List.drop_eq_nil_of_le (by omega)]; rfl
                · rw [HK.out h0, List.drop_eq_nil_of_le (by omega)]; rfl
              have hv := HVV.out
              rw [if_pos HX.out] at hv
              have HR1 : Hid (V1 = 0 ∧ V2 = 151) := ⟨(congrArg Prod.fst hv).symm, (congrArg Prod.snd hv).symm⟩
              clear HK hv HVV
              go_wp2
              go_ret2
              exact ⟨by rw [HR1.out.1, HR1.out.2]; rfl, rfl⟩
theorem rgroup_none (groups : Int) (nv : Value) (w : World) :
    Calls Try.prog 27 #[.string ⟨#[]⟩, .int .i64 groups, nv] w fun e w' => e = .returned (.tuple #[.int .i64 0, .int .i64 220]) ∧ w' = w := by
  go_enter Try.func27, Try.ntmps27
  go_wp2
  refine wp_loop_rounds 1 ?_
  rw [rounds_succ]
  go_wp2
  go_ret2
  exact ⟨rfl, rfl⟩
theorem grpV_nil (groups : Int) (T : List ByteArray) : grpV [] groups T = (0, 220) := rfl
end Go.Proofs.Ytfnndnlhdfjggaa.edt
