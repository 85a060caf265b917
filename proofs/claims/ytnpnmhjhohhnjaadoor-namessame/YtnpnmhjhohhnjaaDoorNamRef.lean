/- The document's value: a kind's value, by its short name. -/
import Derived.Test.YtnpnmhjhohhnjaaDoorNamLong
set_option linter.unusedVariables false
set_option linter.unusedSimpArgs false
namespace Go.Proofs.YtnpnmhjhohhnjaaDoor.nam
open Go.RowKit lin

def shortL (o : Option R3) : List UInt8 := match o with | some r => r.2.1 | none => []
theorem rows_short : ∀ r ∈ rowsL, r.2.1 ≠ [] := by decide +kernel
theorem rows_pr : ∀ r ∈ rowsL, r.1 = [112, 114] → r.2.1 = [103, 99] ∨ r.2.1 = [115, 99] := by decide +kernel
theorem shortL_nil {x : List UInt8 × List UInt8} : shortL (lookL x) = [] ↔ lookL x = none := by
  cases h : lookL x with
  | none => simp [shortL]
  | some r => simp [shortL]; exact rows_short r (look_mem h).1
theorem hitT {k l : List UInt8} {r : R3} (h : r.1 = k) (h2 : looseL r.2.1 = l ∨ looseL r.2.2 = l) : hit (k, l) r = true := by
  unfold hit
  simp only [Bool.and_eq_true, Bool.or_eq_true, beq_iff_eq]
  exact ⟨h, h2⟩
theorem hitF1 {k l : List UInt8} {r : R3} (h : ¬ r.1 = k) : hit (k, l) r = false := by
  unfold hit
  rw [beq_eq_false_iff_ne.2 h]; rfl
theorem hitF2 {k l : List UInt8} {r : R3} (h : ¬ looseL r.2.1 = l) (h2 : ¬ looseL r.2.2 = l) : hit (k, l) r = false := by
  unfold hit
  rw [beq_eq_false_iff_ne.2 h, beq_eq_false_iff_ne.2 h2, Bool.or_self, Bool.and_false]
theorem drop_step {k : Nat} {r : R3} (h : rowsL[k]? = some r) : rowsL.drop k = r :: rowsL.drop (k + 1) := by
  have hk := (List.getElem?_eq_some_iff.1 h).1
  rw [List.drop_eq_getElem_cons hk, (List.getElem?_eq_some_iff.1 h).2]

set_option maxHeartbeats 2000000 in
set_option maxRecDepth 100000 in
theorem value_any (k s : List UInt8) (w : World) (hs : s.length ≤ 140737488355327) :
    Calls Tryd.prog 27 #[.string (BA k), .string (BA s)] w fun e w' => e = .returned (.string (BA (shortL (lookL (k, looseL s))))) ∧ Below w.heap.size w w' := by
  have AA := aliases_any w
  have RR := rrows_any aliasB w (Nat.le_trans alias_n (by decide))
  have LS : Hid (∀ W, Calls Tryd.prog 9 #[.string (BA s)] W fun e w' => e = .returned (.string (BA (looseL s))) ∧ Below W.heap.size W w') := fun W => rloose_any (BA s) W (by rw [BA_size]; omega)
  have LR : Hid (∀ W (f : List UInt8), f.length ≤ 30 → Calls Tryd.prog 9 #[.string (BA f)] W fun e w' => e = .returned (.string (BA (looseL f))) ∧ Below W.heap.size W w') := fun W f hf => rloose_any (BA f) W (by rw [BA_size]; omega)
  have H0 : Hid (lookL (k, looseL s) = (rowsL.drop 0).find? (hit (k, looseL s))) := rfl
  generalize lookL (k, looseL s) = lk at *
  generalize looseL s = ls at *
  go_enter Tryd.func27, Tryd.ntmps27
  go_wp2_with fail
  refine AA.mono ?_
  rintro e wa ⟨rfl, hwa⟩
  rw [hwa]
  clear AA hwa
  go_wp2_with fail
  refine RR.mono ?_
  rintro e w1 ⟨v, rfl, hrows, b1⟩
  clear RR
  obtain ⟨g, cap, vs, hfile⟩ := file_at hrows
  clear hrows
  obtain rfl := hfile.val
  have hs1 := b1.size
  have hvl : vs.length ≤ 51 := by rw [hfile.len, rows_n]; exact Nat.le_refl _
  have HF : Hid (FileAt w1 w.heap.size (.slice (some ⟨g, 0, none⟩) vs.length cap) g cap vs) := hfile
  have HL : Hid (vs.length = rowsL.length) := hfile.len
  clear hfile
  go_wp2
  go_loopw [10] (fun i wr => ∃ j : Nat, j ≤ vs.length ∧ i = .int .i64 j ∧ Hid (lk = (rowsL.drop j).find? (hit (k, ls))) ∧ Below w1.heap.size w1 wr) (fun i _ => vs.length - (RowKit.intOf i).toNat)
  case atStart => exact ⟨0, Nat.zero_le _, rfl, H0, Below.refl _ _⟩
  case round =>
    obtain ⟨j, hj, rfl, HR, hbel⟩ := hrel
    by_cases hlt : j < vs.length
    · have hlt' : (j : Int) < (vs.length : Int) := by omega
      have hjr : j < rowsL.length := by rw [← HL.out]; exact hlt
      obtain ⟨r, hr⟩ : ∃ r, rowsL[j]? = some r := ⟨_, List.getElem?_eq_getElem hjr⟩
      have ce := HF.out.cell j hlt
      rw [Nat.zero_add] at ce
      obtain ⟨fg, fo, fc, hx, hfl, hflt, f0, f1, f2⟩ := HF.out.row j vs[j] r (List.getElem?_eq_getElem hlt) hr
      rw [hx] at ce
      have ce2 : wr.cell? ⟨g, j, none⟩ = some (.slice (some ⟨fg, fo, none⟩) 3 fc) := (hbel.cell (p := ⟨g, j, none⟩) HF.out.lt).trans ce
      have cf : ∀ W, Below w1.heap.size w1 W → ∀ o v, w1.cell? ⟨fg, o, none⟩ = some v → W.cell? ⟨fg, o, none⟩ = some v := fun W hb o v h => (hb.cell (p := ⟨fg, o, none⟩) hflt).trans h
      have d0 := cf wr hbel _ _ f0
      have d1 := cf wr hbel _ _ f1
      have hsm := rows_small r (List.mem_of_getElem? hr)
      have hdr := drop_step hr
      have HB : Hid (lk = if hit (k, ls) r then some r else (rowsL.drop (j + 1)).find? (hit (k, ls))) := by
        rw [Hid, HR.out, hdr, List.find?_cons]
        cases hit (k, ls) r <;> rfl
      have HCF : Hid (∀ W, Below w1.heap.size w1 W → W.cell? ⟨fg, fo + 1, none⟩ = some (.string (BA r.2.1)) ∧ W.cell? ⟨fg, fo + 1 + 1, none⟩ = some (.string (BA r.2.2))) := fun W hb => ⟨cf W hb _ _ f1, cf W hb _ _ f2⟩
      have hbs := hbel.size
      clear hdr cf f0 f1 f2 ce hx hr HR
      by_cases hk : r.1 = k
      · have t1 := beqT2 hk
        have HT : Hid (looseL r.2.1 = ls ∨ looseL r.2.2 = ls → lk = some r) := fun h => by rw [HB.out, hitT hk h]; rfl
        have HFF : Hid (¬ looseL r.2.1 = ls → ¬ looseL r.2.2 = ls → lk = (rowsL.drop (j + 1)).find? (hit (k, ls))) := fun h h2 => by rw [HB.out, hitF2 h h2]; rfl
        clear hk HB
        obtain ⟨r0, r1, r2⟩ := r
        simp only at d0 d1 hsm HCF HT HFF t1
        go_wp2_with fail
        refine (LR.out _ r1 hsm.2.1).mono ?_
        rintro e w2 ⟨rfl, hb2⟩
        have b2 := hbel.trans (hb2.mono hbs)
        have hs2 := b2.size
        clear hb2
        go_wp2_with fail
        refine (LS.out _).mono ?_
        rintro e w3 ⟨rfl, hb3⟩
        have b3 := b2.trans (hb3.mono hs2)
        have hs3 := b3.size
        clear hb3
        obtain ⟨e1, e2⟩ := HCF.out w3 b3
        by_cases hq : looseL r1 = ls
        · have t2 := beqT2 hq
          have HE : Hid (lk = some (r0, r1, r2)) := HT.out (.inl hq)
          have HBB : Hid (Below w.heap.size w w3) := b1.trans (b3.mono hs1)
          clear HT HFF hq
          go_wp2
          go_ret
          exact ⟨by rw [HE.out]; rfl, HBB.out⟩
        · have t2 := beqF2 hq
          go_wp2_with fail
          refine (LR.out _ r2 hsm.2.2).mono ?_
          rintro e w4 ⟨rfl, hb4⟩
          have b4 := b3.trans (hb4.mono hs3)
          have hs4 := b4.size
          clear hb4
          go_wp2_with fail
          refine (LS.out _).mono ?_
          rintro e w5 ⟨rfl, hb5⟩
          have b5 := b4.trans (hb5.mono hs4)
          obtain ⟨k1, k2⟩ := HCF.out w5 b5
          clear hb5
          by_cases hq2 : looseL r2 = ls
          · have t3 := beqT2 hq2
            have HE : Hid (lk = some (r0, r1, r2)) := HT.out (.inr hq2)
            have HBB : Hid (Below w.heap.size w w5) := b1.trans (b5.mono hs1)
            clear HT HFF hq hq2
            go_wp2
            go_ret
            exact ⟨by rw [HE.out]; rfl, HBB.out⟩
          · have t3 := beqF2 hq2
            have HE : Hid (lk = (rowsL.drop (j + 1)).find? (hit (k, ls))) := HFF.out hq hq2
            clear HT HFF hq hq2
            go_wp2
            exact ⟨⟨j + 1, by omega, by go_num, HE, b5⟩, by simp [intOf]; omega⟩
      · have t1 := beqF2 hk
        have HE : Hid (lk = (rowsL.drop (j + 1)).find? (hit (k, ls))) := by rw [Hid, HB.out, hitF1 hk]; rfl
        clear hk HB
        obtain ⟨r0, r1, r2⟩ := r
        simp only at d0 d1 hsm HCF t1
        go_wp2
        exact ⟨⟨j + 1, by omega, by go_num, HE, hbel⟩, by simp [intOf]; omega⟩
    · have hge : ¬ (j : Int) < (vs.length : Int) := by omega
      have HE : Hid (lk = none) := by rw [Hid, HR.out, List.drop_eq_nil_of_le (by rw [← HL.out]; omega)]; rfl
      have HBB : Hid (Below w.heap.size w wr) := b1.trans (hbel.mono hs1)
      clear HR
      go_wp2
      go_ret
      exact ⟨by rw [HE.out]; rfl, HBB.out⟩
end Go.Proofs.YtnpnmhjhohhnjaaDoor.nam
