/- The items of bytes, as matches: they stand in order, at edges, and rebuild the bytes with nothing between them. -/
import Derived.Test.YtpdkdfgcnhcmkaaAudEdg4
import Derived.Test.YtpdkdfgcnhcmkaaAudRebR
set_option linter.unusedVariables false
set_option linter.unusedSimpArgs false
namespace Go.Proofs.Ytpdkdfgcnhcmkaa.aud
open Go.RowKit
open Go.Proofs.Ytpdkdfgcnhcmkaa.edt
open Go.Proofs.Ytpdkdfgcnhcmkaa.utf (items it it_end items_step items_end)

def spL (L : List Im) : List (List Sp) := L.map fun x => [((x.2.1 : Int), (x.2.2 : Int))]
theorem spL_cons (x : Im) (L : List Im) : spL (x :: L) = [((x.2.1 : Int), (x.2.2 : Int))] :: spL L := rfl
theorem ord_one (z : Int) (p q : Sp) (r : List (List Sp)) : ordB z p ([q] :: r) = (og p q z && ordB z q r) := rfl
theorem ord_items (f : Nat → Int) (n : Nat) (z : Int) (hz : (n : Int) ≤ z) : ∀ m a, n - a = m → ∀ p : Sp, p.2 ≤ a → ordB z p (spL (items f n a)) = true := by
  intro m
  induction m using Nat.strongRecOn with
  | ind m ih =>
    intro a hm p hp
    rcases Nat.lt_or_ge a n with ha | ha
    · have e := it_end f n a ha
      rw [items_step f n a ha, spL_cons, ord_one]
      simp only
      rw [(og_iff _ _ _).2 ⟨by simp only; omega, by simp only; omega, by simp only; omega, fun h => by simp only at h; omega⟩, Bool.true_and]
      exact ih (n - (it f n a).2.1) (by omega) _ rfl _ (by simp only; omega)
    · rw [items_end f n a ha]; rfl
theorem ord_less (f : Nat → Int) (n : Nat) : ∀ m a, n - a = m → a < n → ∀ p : Sp, ordB ((n : Int) - 1) p (spL (items f n a)) = false := by
  intro m
  induction m using Nat.strongRecOn with
  | ind m ih =>
    intro a hm ha p
    have e := it_end f n a ha
    rw [items_step f n a ha, spL_cons, ord_one]
    simp only
    rcases Nat.lt_or_ge (it f n a).2.1 n with h | h
    · rw [ih (n - (it f n a).2.1) (by omega) _ rfl h, Bool.and_false]
    · rw [show og p (((a : Nat) : Int), (((it f n a).2.1 : Nat) : Int)) ((n : Int) - 1) = false from Bool.eq_false_iff.2 (fun h => by have := (og_iff _ _ _).1 h; simp only at this; omega), Bool.false_and]
theorem edg_items (f : Nat → Int) (n : Nat) : edgB (items f n 0) n (spL (items f n 0)) = true := by
  unfold edgB spL
  rw [List.all_map, List.all_eq_true]
  intro x hx
  obtain ⟨h1, h2, h3⟩ := it_ends f n _ 0 rfl x hx
  have hlt : x.2.1 ≤ x.2.2 := by
    have : ∀ m a, n - a = m → ∀ x ∈ items f n a, x.2.1 ≤ x.2.2 := by
      intro m
      induction m using Nat.strongRecOn with
      | ind m ih =>
        intro a hm x hx
        rcases Nat.lt_or_ge a n with ha | ha
        · have e := it_end f n a ha
          rw [items_step f n a ha] at hx
          rcases List.mem_cons.1 hx with rfl | h
          · simp only; omega
          · exact ih (n - (it f n a).2.1) (by omega) _ rfl x h
        · rw [items_end f n a ha] at hx; simp at hx
    exact this _ 0 rfl x hx
  have e1 : egB (items f n 0) n (x.2.1 : Int) = true := by
    unfold egB
    rw [Bool.or_eq_true, List.any_eq_true]
    exact .inr ⟨x, hx, by simp⟩
  have e2 : egB (items f n 0) n (x.2.2 : Int) = true := by
    unfold egB
    rw [Bool.or_eq_true, List.any_eq_true]
    rcases h3 with h | ⟨y, hy, h⟩
    · exact .inl (decide_eq_true (by omega))
    · exact .inr ⟨y, hy, decide_eq_true (by omega)⟩
  have e3 : decide ((x.2.1 : Int) ≤ (x.2.2 : Int)) = true := decide_eq_true (by omega)
  simp only [Function.comp, List.all_cons, List.all_nil, Bool.and_true, spB, e1, e2, e3, Bool.or_true]
theorem sub_join (b : List Int) (p q r : Nat) (h1 : p ≤ q) (h2 : q ≤ r) : (b.drop p).take (q - p) ++ (b.drop q).take (r - q) = (b.drop p).take (r - p) := by
  have e : r - p = (q - p) + (r - q) := by omega
  rw [e, List.take_add, List.drop_drop, show p + (q - p) = q from by omega]
theorem mt_items (f : Nat → Int) (n : Nat) (b : List Int) : ∀ m a, n - a = m → a ≤ n → (mtL b (spL (items f n a))).flatten = (b.drop a).take (n - a) ∧ (mtL b (spL (items f n a))).length = (items f n a).length := by
  intro m
  induction m using Nat.strongRecOn with
  | ind m ih =>
    intro a hm han
    rcases Nat.lt_or_ge a n with ha | ha
    · have e := it_end f n a ha
      obtain ⟨h1, h2⟩ := ih (n - (it f n a).2.1) (by omega) _ rfl (by omega)
      rw [items_step f n a ha, spL_cons]
      simp only [mtL, List.getD_cons_zero]
      rw [if_pos (by omega), show ((a : Int)).toNat = a from by omega, show (((it f n a).2.1 : Int)).toNat = (it f n a).2.1 from by omega]
      refine ⟨?_, by rw [List.length_cons, List.length_cons, h2]⟩
      rw [List.flatten_cons, h1, sub_join b a _ n (by omega) (by omega)]
    · rw [items_end f n a ha, show n - a = 0 from by omega]
      exact ⟨by simp [spL, mtL], rfl⟩
theorem ot_empty (ps ms : List (List Int)) (hp : ∀ i, ps.getD i [] = []) : ∀ k, k ≤ ms.length → otL ps ms k = (ms.take k).flatten
  | 0, _ => by simp [otL]
  | k + 1, h => by
    rw [otL, ot_empty ps ms hp k (by omega), hp k, take_snoc ms k [] (by omega)]
    simp
theorem rep_get (n : Nat) (i : Nat) : (List.replicate n ([] : List Int)).getD i [] = [] := by
  rw [List.getD_eq_getElem?_getD, List.getElem?_replicate]
  split <;> rfl
theorem reb_items (f : Nat → Int) (n : Nat) (b : List Int) (z : Nat) (hz : n ≤ z) : rebB z b (List.replicate ((items f n 0).length + 1) []) (spL (items f n 0)) = decide (b.take n = b) := by
  obtain ⟨h1, h2⟩ := mt_items f n b _ 0 rfl (Nat.zero_le _)
  unfold rebB
  rw [ord_items f n z (by omega) _ 0 rfl (-1, 0) (Int.le_refl 0), Bool.true_and, List.length_replicate, h2, decide_eq_true rfl, Bool.true_and, pcs_flat, rep_get, List.append_nil, ot_empty _ _ (rep_get _) _ (by rw [h2]; exact Nat.le_refl _), ← h2, List.take_length, h1]
  simp
end Go.Proofs.Ytpdkdfgcnhcmkaa.aud
