/- NamesLong and NamesBack. -/
import Derived.Test.YtnpnmhjhohhnjaaDoorNamLaws
set_option linter.unusedVariables false
set_option linter.unusedSimpArgs false
namespace Go.Proofs.YtnpnmhjhohhnjaaDoor.nam
open Go.RowKit lin

/-- The document's Long. -/
def rl (n : Int) (v : List UInt8) (r : R3) : Bool := !(r.1 == [112, 114]) && rnumL r.1 == n && r.2.1 == v
def rlongL (n : Int) (v : List UInt8) : List UInt8 × Bool := match rowsL.find? (rl n v) with | some r => (r.2.2, true) | none => ([], false)
theorem rows_kinds : ∀ r ∈ rowsL, r.1 = [112, 114] ∨ r.1 = [103, 99] ∨ r.1 = [115, 99] ∨ r.1 = [98, 105] := by decide +kernel
theorem rows_self : ∀ r ∈ rowsL, lookL (r.1, looseL r.2.1) = some r := by decide +kernel
theorem kind_num {r : R3} (h : r ∈ rowsL) (n : Int) : (r.1 ≠ [112, 114] ∧ rnumL r.1 = n) ↔ r.1 = kindL n := by
  unfold kindL
  rcases rows_kinds r h with e | e | e | e <;> rw [e]
  · constructor
    · rintro ⟨h, _⟩; exact absurd rfl h
    · intro h; exfalso; revert h; (repeat' split) <;> simp
  · constructor
    · rintro ⟨_, h⟩; rw [if_pos (show n = 1 from h.symm)]
    · intro h; refine ⟨by decide, ?_⟩; revert h; (repeat' split) <;> simp_all [rnumL]
  · constructor
    · rintro ⟨_, h⟩; have : n = 2 := h.symm; rw [this]; rfl
    · intro h; refine ⟨by decide, ?_⟩; revert h; (repeat' split) <;> simp_all [rnumL]
  · constructor
    · rintro ⟨_, h⟩; have : n = 3 := h.symm; rw [this]; rfl
    · intro h; refine ⟨by decide, ?_⟩; revert h; (repeat' split) <;> simp_all [rnumL]
theorem rl_iff {r : R3} (h : r ∈ rowsL) (n : Int) (v : List UInt8) : rl n v r = true ↔ r.1 = kindL n ∧ r.2.1 = v := by
  rw [← kind_num h n]
  unfold rl
  simp [and_assoc]
theorem long_same (n : Int) (v : List UInt8) : longL n v = rlongL n v := by
  unfold rlongL
  cases hB : rowsL.find? (rl n v) with
  | some r =>
    have hm := List.mem_of_find?_eq_some hB
    obtain ⟨h1, h2⟩ := (rl_iff hm n v).1 (List.find?_some hB)
    have hl := rows_self r hm
    rw [h1, h2] at hl
    exact long1 hl h2
  | none =>
    cases hA : lookL (kindL n, looseL v) with
    | none => exact long0 hA
    | some r =>
      obtain ⟨hm, h1⟩ := look_mem hA
      by_cases h2 : r.2.1 = v
      · have := List.find?_eq_none.1 hB r hm
        exact absurd ((rl_iff hm n v).2 ⟨h1, h2⟩) this
      · exact long2 hA h2

set_option maxHeartbeats 2000000 in
set_option maxRecDepth 100000 in
theorem rlong_any (n : Int) (v : List UInt8) (w : World) :
    Calls Tryd.prog 14 #[.int .i64 n, .string (BA v)] w fun e w' => e = .returned (.tuple #[.string (BA (rlongL n v).1), .bool (rlongL n v).2]) ∧ Below w.heap.size w w' := by
  have AA := aliases_any w
  have RR := rrows_any aliasB w (Nat.le_trans alias_n (by decide))
  have NU : Hid (∀ W k, Calls Tryd.prog 28 #[.string (BA k)] W fun e w' => e = .returned (.int .i64 (rnumL k)) ∧ w' = W) := fun W k => rnumber_any k W
  have G0 : Hid (rowsL.find? (rl n v) = (rowsL.drop 0).find? (rl n v)) := rfl
  have G1 : Hid (∀ r, rowsL.find? (rl n v) = some r → rlongL n v = (r.2.2, true)) := fun r h => by unfold rlongL; rw [h]
  have G2 : Hid (rowsL.find? (rl n v) = none → rlongL n v = ([], false)) := fun h => by unfold rlongL; rw [h]
  generalize rlongL n v = res at *
  generalize rowsL.find? (rl n v) = lk at *
  go_enter Tryd.func14, Tryd.ntmps14
  go_wp2_with fail
  refine AA.mono ?_
  rintro e wa ⟨rfl, hwa⟩
  rw [hwa]
  clear AA hwa
  go_wp2_with fail
  refine RR.mono ?_
  rintro e w1 ⟨sv, rfl, hrows, b1⟩
  clear RR
  obtain ⟨g, cap, vs, hfile⟩ := file_at hrows
  clear hrows
  obtain rfl := hfile.val
  have hs1 := b1.size
  have hvl : vs.length ≤ 51 := by rw [hfile.len, rows_n]; exact Nat.le_refl _
  have HF : Hid (FileAt w1 w.heap.size (.slice (some ⟨g, 0, none⟩) vs.length cap) g cap vs) := hfile
  have HL : Hid (vs.length = rowsL.length) := hfile.len
  clear hfile
  go_wp2
  go_loopw [11] (fun i wr => ∃ j : Nat, j ≤ vs.length ∧ i = .int .i64 j ∧ Hid (lk = (rowsL.drop j).find? (rl n v)) ∧ wr = w1) (fun i _ => vs.length - (RowKit.intOf i).toNat)
  case atStart => exact ⟨0, Nat.zero_le _, rfl, G0, rfl⟩
  case round =>
    obtain ⟨j, hj, rfl, HR, hz⟩ := hrel
    subst hz
    by_cases hlt : j < vs.length
    · have hlt' : (j : Int) < (vs.length : Int) := by omega
      have hjr : j < rowsL.length := by rw [← HL.out]; exact hlt
      obtain ⟨r, hr⟩ : ∃ r, rowsL[j]? = some r := ⟨_, List.getElem?_eq_getElem hjr⟩
      have ce := HF.out.cell j hlt
      rw [Nat.zero_add] at ce
      obtain ⟨fg, fo, fc, hx, hfl, hflt, f0, f1, f2⟩ := HF.out.row j vs[j] r (List.getElem?_eq_getElem hlt) hr
      rw [hx] at ce
      have hdr := drop_step hr
      have HB : Hid (lk = if rl n v r then some r else (rowsL.drop (j + 1)).find? (rl n v)) := by
        rw [Hid, HR.out, hdr, List.find?_cons]
        cases rl n v r <;> rfl
      clear hdr hx hr HR
      have HNF : Hid (rl n v r = false → lk = (rowsL.drop (j + 1)).find? (rl n v)) := fun h => by rw [HB.out, h]; rfl
      have HYT : Hid (rl n v r = true → res = (r.2.2, true)) := fun h => G1.out r (by rw [HB.out, h]; rfl)
      have HRL : Hid (rl n v r = (!(r.1 == [112, 114]) && rnumL r.1 == n && r.2.1 == v)) := rfl
      have NR := NU.out wr r.1
      clear HB
      obtain ⟨r0, r1, r2⟩ := r
      simp only at f0 f1 f2 HNF HYT HRL NR
      by_cases hp : r0 = [112, 114]
      · have t1 := beqT hp
        have HE : Hid (lk = (rowsL.drop (j + 1)).find? (rl n v)) := HNF.out (by rw [HRL.out, hp]; rfl)
        clear HNF HYT HRL hp
        go_wp2
        exact ⟨⟨j + 1, by omega, by go_num, HE, by trivial⟩, by simp [intOf]; omega⟩
      · have t1 := beqF hp
        have t1' : (r0 == [112, 114]) = false := beq_eq_false_iff_ne.2 hp
        go_wp2_with fail
        refine NR.mono ?_
        rintro e w2 ⟨rfl, hw2⟩
        rw [hw2]
        clear NR hw2
        by_cases hn : rnumL r0 = n
        · have t2 : (rnumL r0 == n) = true := by rw [hn]; exact beq_self_eq_true _
          by_cases hv : r1 = v
          · have t3 := beqT2 hv
            have HE : Hid (res = (r2, true)) := HYT.out (by rw [HRL.out, t1', t2, hv, beq_self_eq_true]; rfl)
            clear HNF HYT HRL hp hn hv t1'
            generalize rnumL r0 = rn at *
            go_wp2
            go_ret2
            exact ⟨by rw [HE.out]; rfl, b1⟩
          · have t3 := beqF2 hv
            have t3' : (r1 == v) = false := beq_eq_false_iff_ne.2 hv
            have HE : Hid (lk = (rowsL.drop (j + 1)).find? (rl n v)) := HNF.out (by rw [HRL.out, t1', t2, t3']; rfl)
            clear HNF HYT HRL hp hn hv t1' t3'
            generalize rnumL r0 = rn at *
            go_wp2
            exact ⟨⟨j + 1, by omega, by go_num, HE, by trivial⟩, by simp [intOf]; omega⟩
        · have t2 : (rnumL r0 == n) = false := beq_eq_false_iff_ne.2 hn
          have HE : Hid (lk = (rowsL.drop (j + 1)).find? (rl n v)) := HNF.out (by rw [HRL.out, t1', t2]; rfl)
          clear HNF HYT HRL hp hn t1'
          generalize rnumL r0 = rn at *
          go_wp2
          exact ⟨⟨j + 1, by omega, by go_num, HE, by trivial⟩, by simp [intOf]; omega⟩
    · have hge : ¬ (j : Int) < (vs.length : Int) := by omega
      have HE : Hid (res = ([], false)) := G2.out (by rw [HR.out, List.drop_eq_nil_of_le (by rw [← HL.out]; omega)]; rfl)
      clear HR
      go_wp2
      go_ret2
      exact ⟨by rw [HE.out]; rfl, b1⟩

theorem namesLong_any (n : Int) (s : ByteArray) (w : World) (hs : s.size ≤ 140737488355327) :
    Calls Tryd.prog 5 #[.int .i64 n, .string s] w fun e w' => e = .returned (.bool true) ∧ Below w.heap.size w w' := by
  have L1 : Calls Tryd.prog 13 #[.int .i64 n, .string s] w fun e w' => e = .returned (.tuple #[.string (BA (longL n s.data.toList).1), .bool (longL n s.data.toList).2]) ∧ Below w.heap.size w w' := long_any n s.data.toList w (by rw [size_list]; exact hs)
  have L2 : Hid (∀ W, Calls Tryd.prog 14 #[.int .i64 n, .string s] W fun e w' => e = .returned (.tuple #[.string (BA (longL n s.data.toList).1), .bool (longL n s.data.toList).2]) ∧ Below W.heap.size W w') := fun W => by
    have := rlong_any n s.data.toList W
    rw [← long_same] at this
    exact this
  have AW : Hid (∀ W, Calls Tryd.prog 10 #[] W fun e w' => e = .returned (.bool true) ∧ Below W.heap.size W w') := awake_any
  generalize BA (longL n s.data.toList).1 = x at *
  generalize (longL n s.data.toList).2 = ok at *
  have t1 : (x.toList == x.toList) = true := beq_self_eq_true _
  have t2 : (ok == ok) = true := beq_self_eq_true _
  go_enter Tryd.func5, Tryd.ntmps5
  go_wp2_with fail
  refine L1.mono ?_
  rintro e w1 ⟨rfl, b1⟩
  clear L1
  go_wp2_with fail
  refine (L2.out _).mono ?_
  rintro e w2 ⟨rfl, hb2⟩
  have b2 := b1.trans (hb2.mono b1.size)
  go_wp2_with fail
  refine (AW.out _).mono ?_
  rintro e w3 ⟨rfl, hb3⟩
  have b3 := b2.trans (hb3.mono b2.size)
  go_wp2
  go_ret
  exact ⟨rfl, b3⟩
end Go.Proofs.YtnpnmhjhohhnjaaDoor.nam
