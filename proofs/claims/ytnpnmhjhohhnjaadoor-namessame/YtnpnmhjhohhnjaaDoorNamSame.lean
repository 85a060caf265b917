/- NamesSame: short and long names, in great letters, with blanks and strokes. -/
import Derived.Test.YtnpnmhjhohhnjaaDoorNamLaws3
set_option linter.unusedVariables false
set_option linter.unusedSimpArgs false
namespace Go.Proofs.YtnpnmhjhohhnjaaDoor.nam
open Go.RowKit lin

def aheadS (k : List UInt8) : List UInt8 := if k = [98, 105] then [] else k ++ [32, 61, 32]
def upL (l : List UInt8) : List UInt8 := Lib.toUpperA (Lib.replaceAll l [95] [45])
theorem same_all : ∀ r ∈ rowsL, r.1 = [112, 114] ∨ (resolveV (BA (aheadS r.1 ++ r.2.1)) = (numL r.1, r.2.1, 0) ∧ resolveV (BA ((aheadS r.1 ++ [32, 105, 115, 95]) ++ upL r.2.2)) = (numL r.1, r.2.1, 0)) := by decide +kernel
theorem up_small : ∀ r ∈ rowsL, (Lib.replaceAll r.2.2 [95] [45]).length ≤ 30 ∧ (upL r.2.2).length ≤ 30 ∧ (Lib.replaceAll r.2.2 [95] [45]).all (fun b => decide (b.toNat < 128)) = true := by decide +kernel
theorem count_small : ∀ r ∈ rowsL, Lib.countB (BA r.2.2) ⟨#[95]⟩ ≤ 30 := by decide +kernel

theorem mod51 (x : Int) : ∃ j : Nat, wrap64 ((IntKind.u64.wrap x).tmod 51) = (j : Int) ∧ j < 51 := by
  have hu : 0 ≤ IntKind.u64.wrap x := by simp [IntKind.wrap, IntKind.signed, IntKind.bits]; omega
  rw [Int.tmod_eq_emod_of_nonneg hu]
  refine ⟨(IntKind.u64.wrap x % 51).toNat, ?_, by omega⟩
  have h1 : 0 ≤ IntKind.u64.wrap x % 51 := by omega
  have h2 : IntKind.u64.wrap x % 51 < 51 := by omega
  generalize IntKind.u64.wrap x % 51 = y at *
  unfold wrap64
  omega

set_option maxHeartbeats 1500000 in
set_option maxRecDepth 100000 in
theorem namesSame_any (x : Int) (w : World) (hx1 : -9223372036854775808 ≤ x) (hx2 : x ≤ 9223372036854775807) (m : Int) (hm : w.cell? ⟨1, 0, none⟩ = some (.int .i64 m)) :
    Calls Tryd.prog 6 #[.int .i64 x] w fun e w' => e = .returned (.bool true) ∧ Below w.heap.size w w' := by
  have AA := aliases_any w
  have RR := rrows_any aliasB w (Nat.le_trans alias_n (by decide))
  have AW : Hid (∀ W, Calls Tryd.prog 10 #[] W fun e w' => e = .returned (.bool true) ∧ Below W.heap.size W w') := awake_any
  have hml := World.block_lt_of_cell? w _ hm
  have HML : Hid (∀ W, Below w.heap.size w W → W.cell? ⟨1, 0, none⟩ = some (.int .i64 m)) := fun W hb => (hb.cell hml).trans hm
  clear hm hml
  go_enter Tryd.func6, Tryd.ntmps6
  go_wp2_with fail
  refine AA.mono ?_
  rintro e wa ⟨rfl, hwa⟩
  rw [hwa]
  clear AA hwa
  go_wp2_with fail
  refine RR.mono ?_
  rintro e w1 ⟨sv, rfl, hrows, b1⟩
  clear RR
  obtain ⟨g, cap, vs, hfile⟩ := file_at hrows
  clear hrows
  obtain rfl := hfile.val
  have hs1 := b1.size
  have hvl : vs.length = 51 := by rw [hfile.len, rows_n]
  obtain ⟨j, hjw, hj51⟩ : ∃ j : Nat, wrap64 ((IntKind.u64.wrap x).tmod 51) = (j : Int) ∧ j < 51 := mod51 x
  have hjr : j < rowsL.length := by rw [rows_n]; exact hj51
  obtain ⟨r, hr⟩ : ∃ r, rowsL[j]? = some r := ⟨_, List.getElem?_eq_getElem hjr⟩
  have hjv : j < vs.length := by omega
  have ce := hfile.cell j hjv
  rw [Nat.zero_add] at ce
  obtain ⟨fg, fo, fc, hx, hfl, hflt, f0, f1, f2⟩ := hfile.row j vs[j] r (List.getElem?_eq_getElem hjv) hr
  rw [hx] at ce
  have hmr := List.mem_of_getElem? hr
  have hsm := rows_small r hmr
  have HCF : Hid (∀ W, Below w1.heap.size w1 W → W.cell? ⟨fg, fo, none⟩ = some (.string (BA r.1)) ∧ W.cell? ⟨fg, fo + 1, none⟩ = some (.string (BA r.2.1)) ∧ W.cell? ⟨fg, fo + 1 + 1, none⟩ = some (.string (BA r.2.2))) := fun W hb => ⟨(hb.cell (p := ⟨fg, fo, none⟩) hflt).trans f0, (hb.cell (p := ⟨fg, fo + 1, none⟩) hflt).trans f1, (hb.cell (p := ⟨fg, fo + 1 + 1, none⟩) hflt).trans f2⟩
  have hj51' : (j : Int) < 51 := by omega
  clear hx hr hfile hjv
  by_cases hp : r.1 = [112, 114]
  · have t1 := beqT hp
    obtain ⟨r0, r1, r2⟩ := r
    simp only at f0 f1 f2 t1
    clear hp hsm hmr HCF
    go_wp2_with fail
    refine (AW.out _).mono ?_
    rintro e w2 ⟨rfl, hb2⟩
    have b2 := b1.trans (hb2.mono hs1)
    go_wp2
    go_ret
    exact ⟨rfl, b2⟩
  · have t1 := beqF hp
    obtain ⟨hra, hrb⟩ := (same_all r hmr).resolve_left hp
    obtain ⟨hu1, hu2, hu3⟩ := up_small r hmr
    have hcn := count_small r hmr
    have hsn : (aheadS r.1).length ≤ 33 := by unfold aheadS; split <;> simp; omega
    have RA : Hid (∀ W, Calls Tryd.prog 11 #[.string (BA (aheadS r.1 ++ r.2.1))] W fun e w' => e = .returned (.tuple #[.int .i64 (numL r.1), .string (BA r.2.1), .int .i64 0]) ∧ Below W.heap.size W w') := fun W => by
      have := resolve_any (BA (aheadS r.1 ++ r.2.1)) W (by rw [BA_size, List.length_append]; omega)
      rw [hra] at this
      exact this
    have RB : Hid (∀ W, Calls Tryd.prog 11 #[.string (BA ((aheadS r.1 ++ [32, 105, 115, 95]) ++ upL r.2.2))] W fun e w' => e = .returned (.tuple #[.int .i64 (numL r.1), .string (BA r.2.1), .int .i64 0]) ∧ Below W.heap.size W w') := fun W => by
      have := resolve_any (BA ((aheadS r.1 ++ [32, 105, 115, 95]) ++ upL r.2.2)) W (by rw [BA_size, List.length_append, List.length_append]; simp; omega)
      rw [hrb] at this
      exact this
    have RP : Hid (∀ W, Below w.heap.size w W → Calls Tryd.prog 18 #[.string (BA r.2.2), .string ⟨#[95]⟩, .string ⟨#[45]⟩] W fun e w' => e = .returned (.string (BA (Lib.replaceAll r.2.2 [95] [45]))) ∧ Below W.heap.size W w') := fun W hb =>
      Tryd.strings_ReplaceAll (BA r.2.2) ⟨#[95]⟩ ⟨#[45]⟩ m W (by rw [BA_size]; omega) (HML.out W hb) (by decide) (by rw [BA_size, show ByteArray.size ⟨#[45]⟩ = 1 from rfl]; omega)
    have UP : Hid (∀ W, Calls Tryd.prog 17 #[.string (BA (Lib.replaceAll r.2.2 [95] [45]))] W fun e w' => e = .returned (.string (BA (upL r.2.2))) ∧ Below W.heap.size W w') := fun W =>
      Tryd.strings_ToUpper_ascii (BA (Lib.replaceAll r.2.2 [95] [45])) W (by rw [BA_size]; omega) (fun k b hk => by
        have := List.all_eq_true.1 hu3 b (List.mem_of_getElem? hk)
        simpa using this)
    have q2 : BA (aheadS r.1) ++ BA r.2.1 = BA (aheadS r.1 ++ r.2.1) := BA_app _ _
    have q3 : BA (aheadS r.1) ++ (⟨#[32, 105, 115, 95]⟩ : ByteArray) = BA (aheadS r.1 ++ [32, 105, 115, 95]) := BA_app _ [32, 105, 115, 95]
    have q4 : BA (aheadS r.1 ++ [32, 105, 115, 95]) ++ BA (upL r.2.2) = BA ((aheadS r.1 ++ [32, 105, 115, 95]) ++ upL r.2.2) := BA_app _ _
    have z0 : (BA r.1).size ≤ 30 := hsm.1
    have z1 : (BA r.2.1).size ≤ 30 := hsm.2.1
    have z2 : (BA (upL r.2.2)).size ≤ 30 := hu2
    have z3 : (BA (aheadS r.1)).size ≤ 33 := hsn
    have z4 : (BA (aheadS r.1 ++ [32, 105, 115, 95])).size ≤ 37 := by rw [BA_size, List.length_append]; simp; omega
    have c3 : ByteArray.size ⟨#[32, 61, 32]⟩ = 3 := rfl
    have c4 : ByteArray.size ⟨#[32, 105, 115, 95]⟩ = 4 := rfl
    have tn : (numL r.1 == numL r.1) = true := beq_self_eq_true _
    have ts : ((BA r.2.1).toList == (BA r.2.1).toList) = true := beq_self_eq_true _
    have HA1 : Hid (¬ r.1 = [98, 105] → BA r.1 ++ (⟨#[32, 61, 32]⟩ : ByteArray) = BA (aheadS r.1)) := fun h => by rw [show aheadS r.1 = r.1 ++ [32, 61, 32] from by unfold aheadS; rw [if_neg h]]; exact BA_app _ [32, 61, 32]
    have HA2 : Hid (r.1 = [98, 105] → BA (aheadS r.1) = ⟨#[]⟩) := fun h => by rw [show aheadS r.1 = [] from by unfold aheadS; rw [if_pos h]]; rfl
    clear hp hra hrb hu1 hu2 hu3 hcn hsn hmr hsm
    generalize BA ((aheadS r.1 ++ [32, 105, 115, 95]) ++ upL r.2.2) = X4 at *
    generalize BA (aheadS r.1 ++ [32, 105, 115, 95]) = X3 at *
    generalize BA (aheadS r.1 ++ r.2.1) = X2 at *
    generalize BA (upL r.2.2) = U at *
    generalize BA (Lib.replaceAll r.2.2 [95] [45]) = RPL at *
    generalize numL r.1 = nn at *
    by_cases hb : r.1 = [98, 105]
    · have t2 := beqT hb
      have hA2 := HA2.out hb
      rw [hA2] at q2 q3 z3
      obtain ⟨r0, r1, r2⟩ := r
      simp only at *
      clear hb HA1 HA2 hA2
      generalize BA r1 = s1 at *
      generalize BA r2 = s2 at *
      obtain ⟨X0, hX0⟩ : ∃ X0, BA r0 ++ (⟨#[32, 61, 32]⟩ : ByteArray) = X0 := ⟨_, rfl⟩
      go_wp2_with fail
      refine (RA.out _).mono ?_
      rintro e w2 ⟨rfl, hb2⟩
      have b2 := b1.trans (hb2.mono hs1)
      have hs2 := b2.size
      obtain ⟨k0, k1, k2⟩ := HCF.out w2 hb2
      go_wp2_with fail
      refine (RP.out _ b2).mono ?_
      rintro e w3 ⟨rfl, hb3⟩
      have b3 := b2.trans (hb3.mono hs2)
      have hs3 := b3.size
      go_wp2_with fail
      refine (UP.out _).mono ?_
      rintro e w4 ⟨rfl, hb4⟩
      have b4 := b3.trans (hb4.mono hs3)
      have hs4 := b4.size
      go_wp2_with fail
      refine (RB.out _).mono ?_
      rintro e w5 ⟨rfl, hb5⟩
      have b5 := b4.trans (hb5.mono hs4)
      have hb25 : Below w1.heap.size w1 w5 := hb2.trans ((hb3.mono hb2.size).trans ((hb4.mono (Nat.le_trans hb2.size hb3.size)).trans (hb5.mono (Nat.le_trans hb2.size (Nat.le_trans hb3.size hb4.size)))))
      obtain ⟨l0, l1, l2⟩ := HCF.out w5 hb25
      clear k0 k1 k2
      go_wp2
      go_ret
      exact ⟨rfl, b5⟩
    · have t2 := beqF hb
      have hA1 := HA1.out hb
      obtain ⟨r0, r1, r2⟩ := r
      simp only at *
      clear hb HA1 HA2
      generalize BA (aheadS r0) = AH at *
      generalize BA r1 = s1 at *
      generalize BA r2 = s2 at *
      go_wp2_with fail
      refine (RA.out _).mono ?_
      rintro e w2 ⟨rfl, hb2⟩
      have b2 := b1.trans (hb2.mono hs1)
      have hs2 := b2.size
      obtain ⟨k0, k1, k2⟩ := HCF.out w2 hb2
      go_wp2_with fail
      refine (RP.out _ b2).mono ?_
      rintro e w3 ⟨rfl, hb3⟩
      have b3 := b2.trans (hb3.mono hs2)
      have hs3 := b3.size
      go_wp2_with fail
      refine (UP.out _).mono ?_
      rintro e w4 ⟨rfl, hb4⟩
      have b4 := b3.trans (hb4.mono hs3)
      have hs4 := b4.size
      go_wp2_with fail
      refine (RB.out _).mono ?_
      rintro e w5 ⟨rfl, hb5⟩
      have b5 := b4.trans (hb5.mono hs4)
      have hb25 : Below w1.heap.size w1 w5 := hb2.trans ((hb3.mono hb2.size).trans ((hb4.mono (Nat.le_trans hb2.size hb3.size)).trans (hb5.mono (Nat.le_trans hb2.size (Nat.le_trans hb3.size hb4.size)))))
      obtain ⟨l0, l1, l2⟩ := HCF.out w5 hb25
      clear k0 k1 k2
      go_wp2
      go_ret
      exact ⟨rfl, b5⟩
end Go.Proofs.YtnpnmhjhohhnjaaDoor.nam
