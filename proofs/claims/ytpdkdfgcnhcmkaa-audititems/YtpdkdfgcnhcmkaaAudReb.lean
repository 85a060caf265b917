/- audit.Rebuilt: whether parts, with the matches' bytes between them, are the bytes. -/
import Derived.Test.YtpdkdfgcnhcmkaaAudMat
set_option linter.unusedVariables false
set_option linter.unusedSimpArgs false
namespace Go.Proofs.Ytpdkdfgcnhcmkaa.aud
open Go.RowKit
open Go.Proofs.Ytpdkdfgcnhcmkaa.edt

/-- Parts and what stands between them, so many of these, in turn. -/
def pcs (ps ms : List (List Int)) : Nat → List (List Int)
  | 0 => [ps.getD 0 []]
  | k + 1 => pcs ps ms k ++ [ms.getD k [], ps.getD (k + 1) []]
/-- The same without the last part, as bytes. -/
def otL (ps ms : List (List Int)) : Nat → List Int
  | 0 => []
  | k + 1 => otL ps ms k ++ ps.getD k [] ++ ms.getD k []
theorem pcs_flat (ps ms : List (List Int)) : ∀ k, (pcs ps ms k).flatten = otL ps ms k ++ ps.getD k []
  | 0 => by simp [pcs, otL]
  | k + 1 => by simp [pcs, otL, pcs_flat ps ms k]
theorem pcs_len (ps ms : List (List Int)) : ∀ k, (pcs ps ms k).length = 2 * k + 1
  | 0 => rfl
  | k + 1 => by simp [pcs, pcs_len ps ms k]; omega
/-- Whether parts and matches make bytes. -/
def rebB (n : Nat) (b : List Int) (ps : List (List Int)) (l : List (List Sp)) : Bool := ordB n (-1, 0) l && (decide (ps.length = (mtL b l).length + 1) && decide ((pcs ps (mtL b l) (mtL b l).length).flatten = b))
theorem two_new (w : World) (x y : Value) : ∀ (j : Nat) (u : Value), [x, y][j]? = some u → (w.alloc (Obj.cells #[x, y] 25)).cell? ((⟨w.heap.size, 0, none⟩ : Addr).add j) = some u := by
  intro j u hj
  match j, hj with
  | 0, hj => simp at hj; subst hj; simp [Addr.add]
  | 1, hj => simp at hj; subst hj; simp [Addr.add]
  | k + 2, hj => simp at hj
theorem one_one (a : Option Addr) (m c : Nat) : ∀ u ∈ [Value.slice a m c], u.oneCell' = true := by intro u hu; simp at hu; subst hu; rfl
set_option maxHeartbeats 4000000 in
theorem rebuilt_any (ao : Option Addr) (n cap : Nat) (b : List Int) (ap : Option Addr) (np cp : Nat) (ps : List (List Int)) (al : Option Addr) (nl cl : Nat) (l : List (List Sp)) (w : World) (hB : BS w ao n cap b) (hP : TV w ap np cp ps) (hS : MS w al nl cl l) (hn : n ≤ 1048576) (hl : nl ≤ 1048576) :
    Calls Try.prog 13 #[.slice ao n cap, .slice ap np cp, .slice al nl cl] w fun e w' => e = .returned (.bool (rebB n b ps l)) ∧ Below w.heap.size w w' := by
  obtain ⟨i0, hi, hz0, hz1, hz2⟩ := info_parts infoBytes
  have O := ordered_any al nl cl l n w hS
  have HM : Hid (ordB n (-1, 0) l = true → ∀ W, Below w.heap.size w W → Calls Try.prog 21 #[.slice ao n cap, .slice al nl cl] W fun e w' => ∃ v ts, e = .returned v ∧ TO W w' W.heap.size v ts ∧ ts.map Prod.snd = mtL b l ∧ Below W.heap.size W w') := fun h W hb => matched_any ao n cap b al nl cl l W (hB.below hb) (hS.below hb) hn hl h
  have hnc := hB.nc
  have hcm := hB.cm
  have hPn := hP.nc
  have hPm := hP.cm
  have hml : (mtL b l).length ≤ nl := by have := mtL_len b l; rw [hS.len] at this; exact this
  have HB : Hid (BS w ao n cap b) := hB
  have HP : Hid (TV w ap np cp ps) := hP
  clear hB hS hP
  unfold rebB
  generalize mtL b l = ms at *
  generalize ordB n (-1, 0) l = V at *
  obtain ⟨RR, hRR⟩ : ∃ r, (V && (decide (ps.length = ms.length + 1) && decide ((pcs ps ms ms.length).flatten = b))) = r := ⟨_, rfl⟩
  rw [hRR]
  have HR : Hid ((V && (decide (ps.length = ms.length + 1) && decide ((pcs ps ms ms.length).flatten = b))) = RR) := hRR
  clear hRR
  go_enter Try.func13, Try.ntmps13
  go_wp2_with fail
  refine O.mono ?_
  rintro e w1 ⟨rfl, hb1⟩
  have B1 : Hid (Below w.heap.size w w1) := hb1
  clear hb1 O
  cases V with
  | false =>
    have e9 : Hid (RR = false) := HR.out.symm
    clear HR
    go_wp2
    go_ret
    exact ⟨ret_bool e9.out.symm, B1.out⟩
  | true =>
    have M := HM.out rfl w1 B1.out
    clear HM
    go_wp2_with fail
    refine M.mono ?_
    rintro e w2 ⟨v, ts, rfl, hT, hts, hb2⟩
    have B2 : Hid (Below w.heap.size w w2) := B1.out.trans (hb2.mono B1.out.size)
    obtain ⟨am, cm, rfl, hTV⟩ := hT.tv hb2
    rw [hts] at hTV
    have hlen := hTV.len
    have hNl : ts.length ≤ nl := by rw [← hlen]; exact hml
    have hmc := hTV.nc
    have hmm := hTV.cm
    rw [hlen] at HR
    generalize ts.length = N at *
    have HTV : Hid (TV w2 am N cm ms) := hTV
    have HPV : Hid (TV w2 ap np cp ps) := HP.out.below B2.out
    have HBV : Hid (BS w2 ao n cap b) := HB.out.below B2.out
    clear M hb2 hT hts hTV B1 HP HB
    have hpl := HPV.out.len
    by_cases hc : np = N + 1
    · have hcl : ps.length = N + 1 := by omega
      have HR2 : Hid (decide ((pcs ps ms N).flatten = b) = RR) := by have h9 := HR.out; rw [decide_eq_true hcl, Bool.true_and, Bool.true_and] at h9; exact h9
      obtain ⟨bp, op, rfl, hcp⟩ := HPV.out.at_ (by omega)
      obtain ⟨a0, m0, c0, q0, hB0⟩ := hcp 0 (by omega)
      rw [Nat.add_zero] at q0
      have HCP : Hid (∀ i, i < np → ∃ a m c, w2.cell? ⟨bp, op + i, none⟩ = some (.slice a m c) ∧ BS w2 a m c (ps.getD i [])) := hcp
      have HB0 : Hid (BS w2 a0 m0 c0 (ps.getD 0 [])) := hB0
      have R0 : Hid (TO w2 (w2.alloc (.cells #[.slice a0 m0 c0] 25)) w2.heap.size (.slice (some ⟨w2.heap.size, 0, none⟩) 1 1) [(.slice a0 m0 c0, ps.getD 0 [])]) := ⟨World.ownsRow_lit (base := w2.heap.size) (e := 25) (size := 1) w2 #[.slice a0 m0 c0] 1 (Nat.le_refl _) (by decide) rfl, fun t h => by simp at h; subst h; exact ⟨_, _, _, rfl, HB0.out⟩⟩
      have hnp : (np : Int) = (N : Int) + 1 := by omega
      have hcl2 : Hid (ps.length = N + 1) := hcl
      have B3 : Hid (Below w2.heap.size w2 (w2.alloc (.cells #[.slice a0 m0 c0] 25))) := (Below.refl _ _).alloc (Nat.le_refl _) _
      clear hcp hB0 hcl hpl HPV HR
      subst hc
      go_wp2
      go_loopw [8, 31] (fun v i wr => ∃ (k : Nat) (us : List Tx), k ≤ N ∧ i = .int .i64 k ∧ Hid (us.length = 2 * k + 1) ∧ Hid (us.map Prod.snd = pcs ps ms k) ∧ Hid (TO w2 wr w2.heap.size v us) ∧ Hid (Below w2.heap.size w2 wr)) (fun _ i _ => N - (intOf i).toNat)
      case atStart => exact ⟨0, [(.slice a0 m0 c0, ps.getD 0 [])], Nat.zero_le _, rfl, rfl, rfl, R0, B3⟩
      case round =>
        clear R0 B3 q0
        obtain ⟨k, us, hk, rfl, hus, hpc, RT, RB⟩ := hrel
        have hsz := RB.out.size
        by_cases hlt : k < N
        · obtain ⟨bm, om, e, hcm2⟩ := HTV.out.at_ (by omega)
          subst e
          obtain ⟨a1, m1, c1, q1, hS1⟩ := hcm2 k hlt
          obtain ⟨a2, m2, c2, q2, hS2⟩ := HCP.out (k + 1) (by omega)
          have p1 : wr.cell? ⟨bm, om + k, none⟩ = some (.slice a1 m1 c1) := (RB.out.cell (World.block_lt_of_cell? w2 _ q1)).trans q1
          have p2 : wr.cell? ⟨bp, op + (k + 1), none⟩ = some (.slice a2 m2 c2) := (RB.out.cell (World.block_lt_of_cell? w2 _ q2)).trans q2
          have hul : us.length ≤ 2097153 := by rw [hus.out]; omega
          have HN2 : Hid (∀ t ∈ ([(.slice a1 m1 c1, ms.getD k []), (.slice a2 m2 c2, ps.getD (k + 1) [])] : List Tx), ∃ a m c, t.1 = .slice a m c ∧ BS w2 a m c t.2) := fun t h => by
            simp at h
            rcases h with rfl | rfl
            · exact ⟨_, _, _, rfl, hS1⟩
            · exact ⟨_, _, _, rfl, hS2⟩
          have HT : Hid (∀ t ∈ us, ∃ a m c, t.1 = .slice a m c ∧ BS w2 a m c t.2) := RT.out.txt
          have HVB : Hid (∀ k, u8.ownBlock = some k → w2.heap.size ≤ k) := fun k e => (RT.out.row.lt k e).1
          have HP2 : Hid ((us ++ [((.slice a1 m1 c1 : Value), ms.getD k []), (.slice a2 m2 c2, ps.getD (k + 1) [])]).map Prod.snd = pcs ps ms (k + 1)) := by show _ = _; rw [List.map_append, hpc.out]; rfl
          have HL2 : Hid ((us ++ [((.slice a1 m1 c1 : Value), ms.getD k []), (.slice a2 m2 c2, ps.getD (k + 1) [])]).length = 2 * (k + 1) + 1) := by show _ = _; rw [List.length_append, hus.out]; simp; omega
          have hk1 : (k : Int) + 1 < (N : Int) + 1 := by omega
          clear hcm2 q1 q2 hS1 hS2 hus hpc
          go_wp2_with (at_builtin; refine wpList_append_lies _ rfl _ _ 27 rfl w2.heap.size 25 i0 (.slice none 0 0) 1 24 Try.underlying27 hi hz0 hz1 hz2 rfl (by decide) _ us.length _ rfl (RT.out.row.alloc _) ⟨wr.heap.size, 0, none⟩ 2 2 [.slice a1 m1 c1, .slice a2 m2 c2] rfl rfl (two_new wr _ _) ?d2 (by decide) ?d3 ?d4 ?d5 _ rfl ?_)
          case d2 => intro u hu; simp at hu; rcases hu with rfl | rfl <;> rfl
          case d3 => unfold maxLen; omega
          case d4 => omega
          case d5 => simp; omega
          · intro g c5 w5 hown hgrow hat hlt5
            have R1 : Hid (TO w2 w5 w2.heap.size (.slice (some ⟨g, 0, none⟩) (us.length + 2) c5) (us ++ [(.slice a1 m1 c1, ms.getD k []), (.slice a2 m2 c2, ps.getD (k + 1) [])])) := TO.snoc HT.out HN2.out hown
            have R4 : Hid (Below w2.heap.size w2 w5) := Below.grown (RB.out.alloc hsz _) hgrow (by simp; omega) HVB.out
            clear hown hgrow hat hlt5 RT HT HN2 RB
            go_wp2
            go_roundw
            case rel => exact ⟨k + 1, _, by omega, by go_num, HL2, HP2, R1, R4⟩
            case measure => simp [intOf]; omega
        · obtain rfl : k = N := by omega
          obtain ⟨aj, cj, rfl, hTj⟩ := RT.out.tv RB.out
          have J := join_any aj us.length cj (us.map Prod.snd) ao n cap b wr hTj (HBV.out.below RB.out)
          rw [hpc.out, HR2.out] at J
          clear hTj RT hpc
          generalize us.length = uN at *
          go_wp2_with fail
          refine J.mono ?_
          rintro e w3 ⟨rfl, hw3⟩
          subst hw3
          clear J
          go_wp2
          go_ret
          exact ⟨rfl, B2.out.trans (RB.out.mono B2.out.size)⟩
    · have e9 : Hid (RR = false) := by have h9 := HR.out; rw [decide_eq_false (by omega : ¬ ps.length = N + 1), Bool.false_and, Bool.true_and] at h9; exact h9.symm
      have hnp : ¬ (np : Int) = (N : Int) + 1 := by omega
      clear hpl HR
      go_wp2
      go_ret
      exact ⟨ret_bool e9.out.symm, B2.out⟩
end Go.Proofs.Ytpdkdfgcnhcmkaa.aud
