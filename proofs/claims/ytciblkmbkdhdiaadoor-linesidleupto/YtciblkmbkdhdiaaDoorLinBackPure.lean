/- A file that was printed is read as it was: as plain lists. -/
import Derived.Test.YtciblkmbkdhdiaaDoorLinPrint
set_option linter.unusedVariables false
set_option linter.unusedSimpArgs false
namespace Go.Proofs.YtciblkmbkdhdiaaDoor.lin
open Go.RowKit

def hxL : List UInt8 → Int → Option Int
  | [], v => some v
  | x :: l, v => if dok (x.toNat : Int) then hxL l (v * 16 + dv (x.toNat : Int)) else none
theorem hx_list (s : ByteArray) : ∀ k p v, p + k = s.size → hx s k p v = hxL (s.data.toList.drop p) v := by
  intro k
  induction k with
  | zero =>
    intro p v h
    rw [show s.data.toList.drop p = [] from List.drop_eq_nil_of_le (by rw [size_list]; omega)]
    rfl
  | succ k ih =>
    intro p v h
    have hp : p < s.size := by omega
    rw [hx, drop_cons s p hp, hxL, at8_eq s p hp]
    split
    · exact ih (p + 1) _ (by omega)
    · rfl
theorem hxL_append (a b : List UInt8) : ∀ v, hxL (a ++ b) v = (hxL a v).bind (hxL b) := by
  induction a with
  | nil => intro v; rfl
  | cons x a ih =>
    intro v
    rw [List.cons_append, hxL, hxL]
    split
    · exact ih _
    · rfl
theorem dU_dok : ∀ d : Fin 16, dok ((dU d.val).toNat : Int) = true := by decide +kernel
theorem dU_dv : ∀ d : Fin 16, dv ((dU d.val).toNat : Int) = (d.val : Int) := by decide +kernel
theorem dU_fine : ∀ d : Fin 16, (dU d.val) ≠ 46 ∧ (dU d.val) ≠ 59 ∧ (dU d.val) ≠ 35 ∧ (dU d.val) ≠ 10 ∧ blank (dU d.val) = false := by decide +kernel
theorem hxL_hexU : ∀ n : Nat, hxL (hexU n) 0 = some (n : Int) := by
  intro n
  induction n using Nat.strongRecOn with
  | _ n ih =>
    rcases Nat.eq_zero_or_pos n with rfl | h
    · rw [hexU_zero]; rfl
    · rw [hexU_pos n h, hxL_append, ih (n / 16) (by omega)]
      have hd : n % 16 < 16 := Nat.mod_lt _ (by decide)
      have h1 := dU_dok ⟨n % 16, hd⟩
      have h2 := dU_dv ⟨n % 16, hd⟩
      simp only [] at h1 h2
      show hxL [dU (n % 16)] ((n / 16 : Nat) : Int) = _
      rw [hxL, if_pos h1, h2, hxL]
      congr 1
      omega
theorem hxL_zeros (l : List UInt8) : ∀ k : Nat, hxL (List.replicate k 48 ++ l) 0 = hxL l 0 := by
  intro k
  induction k with
  | zero => rfl
  | succ k ih =>
    rw [List.replicate_succ, List.cons_append, hxL, if_pos (by decide)]
    exact ih
theorem pointL_ge (n : Nat) : 4 ≤ (pointL n).length := by
  unfold pointL
  rw [List.length_append, List.length_replicate]
  omega
theorem hexV_point (n : Nat) (h : n ≤ 1114111) : hexV (BA (pointL n)) = some (n : Int) := by
  unfold hexV
  have h1 := pointL_ge n
  have h2 := pointL_len n h
  rw [BA_size, if_neg (by omega), hx_list _ _ 0 0 (by rw [BA_size]; omega), List.drop_zero, BA_data]
  unfold pointL
  rw [hxL_zeros, hxL_hexU]
  simp
  omega
theorem point_fine (n : Nat) : ∀ x ∈ pointL n, x ≠ 46 ∧ x ≠ 59 ∧ x ≠ 35 ∧ x ≠ 10 ∧ blank x = false := by
  have hU : ∀ n, ∀ x ∈ hexU n, x ≠ 46 ∧ x ≠ 59 ∧ x ≠ 35 ∧ x ≠ 10 ∧ blank x = false := by
    intro n
    induction n using Nat.strongRecOn with
    | _ n ih =>
      intro x hx
      rcases Nat.eq_zero_or_pos n with rfl | h
      · rw [hexU_zero] at hx; cases hx
      · rw [hexU_pos n h] at hx
        rcases List.mem_append.1 hx with hx | hx
        · exact ih (n / 16) (by omega) x hx
        · obtain rfl := List.mem_singleton.1 hx
          exact dU_fine ⟨n % 16, Nat.mod_lt _ (by decide)⟩
  intro x hx
  unfold pointL at hx
  rcases List.mem_append.1 hx with hx | hx
  · rw [List.eq_of_mem_replicate hx]; decide
  · exact hU n x hx

theorem occ_no (l : List UInt8) (j : Nat) (h : ∀ x, (l.drop j).head? = some x → x ≠ 46) : Lib.occAt l [46, 46] j = false := by
  unfold Lib.occAt
  cases hd : l.drop j with
  | nil => rfl
  | cons x t =>
    have := h x (by rw [hd]; rfl)
    simp [List.isPrefixOf]
    intro e
    exact absurd e.symm this
theorem cut_one (p : List UInt8) (h : ∀ x ∈ p, x ≠ 46) : Lib.cut p [46, 46] = (p, [], false) := by
  have hx : Lib.index p [46, 46] = -1 := Lib.index_none (fun j _ => occ_no p j (fun x hx => h x (List.mem_of_mem_drop (List.mem_of_mem_head? hx))))
  unfold Lib.cut
  rw [hx, if_neg (by omega)]
theorem cut_two (p q : List UInt8) (h : ∀ x ∈ p, x ≠ 46) : Lib.cut (p ++ ([46, 46] ++ q)) [46, 46] = (p, q, true) := by
  have hx : Lib.index (p ++ ([46, 46] ++ q)) [46, 46] = p.length := Lib.index_first (by simp) (by
    unfold Lib.occAt
    rw [List.drop_left]
    simp [List.isPrefixOf]) (fun j hj => occ_no _ j (fun x hx => by
      rw [List.drop_append_of_le_length (by omega)] at hx
      have hne : p.drop j ≠ [] := by
        intro e
        have := congrArg List.length e
        simp at this
        omega
      cases hd : p.drop j with
      | nil => exact absurd hd hne
      | cons y t =>
        rw [hd] at hx
        simp at hx
        subst hx
        exact h y (List.mem_of_mem_drop (by rw [hd]; simp))))
  unfold Lib.cut
  rw [hx, if_pos (by omega), Int.toNat_natCast]
  refine Prod.ext ?_ (Prod.ext ?_ rfl)
  · exact List.take_left
  · show (p ++ ([46, 46] ++ q)).drop (p.length + 2) = q
    rw [← List.append_assoc, List.drop_left' (by simp)]
theorem bounds_head (lo hi : Int) (h1 : 0 ≤ lo) (h2 : lo ≤ hi) (h3 : hi ≤ 1114111) : boundsB (BA (headText lo hi)) = true ∧ boundsLo (BA (headText lo hi)) = lo ∧ boundsHi (BA (headText lo hi)) = hi := by
  have k1 := hexV_point lo.toNat (by omega)
  have k2 := hexV_point hi.toNat (by omega)
  have e1 : firstV (BA (headText lo hi)) = BA (pointL lo.toNat) := by
    unfold firstV headText
    rw [BA_data]
    split
    · rw [List.append_nil, cut_one _ (fun x hx => (point_fine _ x hx).1)]; rfl
    · rw [cut_two _ _ (fun x hx => (point_fine _ x hx).1)]; rfl
  have e2 : secondV (BA (headText lo hi)) = BA (pointL hi.toNat) := by
    unfold secondV
    rw [e1]
    unfold headText
    rw [BA_data]
    split
    · rename_i he
      rw [List.append_nil, cut_one _ (fun x hx => (point_fine _ x hx).1), he]; rfl
    · rw [cut_two _ _ (fun x hx => (point_fine _ x hx).1)]; rfl
  have b : boundsB (BA (headText lo hi)) = true := by
    unfold boundsB hexB hexN
    rw [e1, e2, k1, k2]
    simp
    omega
  unfold boundsLo boundsHi hexN
  rw [b, e1, e2, k1, k2]
  refine ⟨rfl, ?_, ?_⟩
  · show (lo.toNat : Int) = lo; omega
  · show (hi.toNat : Int) = hi; omega
end Go.Proofs.YtciblkmbkdhdiaaDoor.lin
