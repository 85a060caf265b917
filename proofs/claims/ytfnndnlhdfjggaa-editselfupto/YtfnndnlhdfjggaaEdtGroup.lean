/- What slices.Index and the method group of edit.mark answer: the group for which a mark stands. -/
import Derived.Test.YtfnndnlhdfjggaaEdtMark
import Derived.Deep.RegionHeld3
set_option linter.unusedVariables false
set_option linter.unusedSimpArgs false
namespace Go.Proofs.Ytfnndnlhdfjggaa.edt
open Go.RowKit

/-- The place of a text in a list; -1: none. -/
def sx (s : ByteArray) : List ByteArray → Int
  | [] => -1
  | x :: l => if s = x then 0 else if sx s l = -1 then -1 else sx s l + 1
theorem sx_ge (s : ByteArray) : ∀ l, -1 ≤ sx s l
  | [] => by simp [sx]
  | b :: l => by have := sx_ge s l; unfold sx; split; omega; split <;> omega
theorem sx_lt (s : ByteArray) : ∀ l, sx s l < l.length
  | [] => by simp [sx]
  | b :: l => by have := sx_lt s l; unfold sx; simp only [List.length_cons]; split; omega; split <;> omega
/-- From the address on lie n texts. -/
structure TS (w : World) (ao : Option Addr) (n cap : Nat) (l : List ByteArray) : Prop where
  len : l.length = n
  nc : n ≤ cap
  cm : cap ≤ 9223372036854775807
  nil : ao = none → cap = 0
  cell : n = 0 ∨ ∃ b off, ao = some ⟨b, off, none⟩ ∧ ∀ i, i < n → w.cell? ⟨b, off + i, none⟩ = some (.string (l.getD i .empty))
theorem TS.below {w w' : World} {ao : Option Addr} {n cap : Nat} {l : List ByteArray} (h : TS w ao n cap l) (hb : Below w.heap.size w w') : TS w' ao n cap l := by
  refine ⟨h.len, h.nc, h.cm, h.nil, ?_⟩
  rcases h.cell with k | ⟨b, off, rfl, k⟩
  · exact .inl k
  · exact .inr ⟨b, off, rfl, fun i hi => (hb.cell (World.block_lt_of_cell? w _ (k i hi))).trans (k i hi)⟩
theorem TS.at_ {w : World} {ao : Option Addr} {n cap : Nat} {l : List ByteArray} (h : TS w ao n cap l) (h0 : 0 < n) : ∃ b off, ao = some ⟨b, off, none⟩ ∧ ∀ i, i < n → w.cell? ⟨b, off + i, none⟩ = some (.string (l.getD i .empty)) := by
  rcases h.cell with h | h
  · omega
  · exact h
theorem sx_drop (s : ByteArray) (l : List ByteArray) (k : Nat) (h : k < l.length) (hne : ¬ s = l.getD k .empty) (hk : sx s l = if sx s (l.drop k) = -1 then -1 else sx s (l.drop k) + k) :
    sx s l = if sx s (l.drop (k + 1)) = -1 then -1 else sx s (l.drop (k + 1)) + (k + 1 : Nat) := by
  have e : sx s (l.drop k) = if sx s (l.drop (k + 1)) = -1 then -1 else sx s (l.drop (k + 1)) + 1 := by
    rw [drop_cons l k .empty h]
    show (if s = l.getD k .empty then 0 else if sx s (l.drop (k + 1)) = -1 then -1 else sx s (l.drop (k + 1)) + 1) = _
    rw [if_neg hne]
  have h1 := sx_ge s (l.drop (k + 1))
  rw [hk, e]
  by_cases c : sx s (l.drop (k + 1)) = -1
  · rw [if_pos c, if_pos rfl, if_pos c]
  · rw [if_neg c, if_neg c, if_neg (by omega)]; omega
theorem str_ne {s x : ByteArray} (h : ¬ s = x) : (s.toList == x.toList) = false := by
  rw [beq_eq_false_iff_ne, Lib.toList_data, Lib.toList_data]
  intro e
  apply h
  cases s; cases x
  simp only [ByteArray.mk.injEq]
  exact Array.toList_inj.1 e
theorem sindex_any (ao : Option Addr) (n cap : Nat) (l : List ByteArray) (s : ByteArray) (w : World) (hB : TS w ao n cap l) :
    Calls Try.prog 41 #[.slice ao n cap, .string s] w fun e w' => e = .returned (.int .i64 (sx s l)) ∧ w' = w := by
  have hn := hB.nc
  have hm := hB.cm
  have HB : Hid (TS w ao n cap l) := hB
  clear hB
  go_enter Try.func41, Try.ntmps41
  go_wp2
  go_loopw [8] (fun i wr => ∃ k : Nat, k ≤ n ∧ i = .int .i64 k ∧ wr = w ∧ Hid (sx s l = if sx s (l.drop k) = -1 then -1 else sx s (l.drop k) + k)) (fun i _ => n - (intOf i).toNat)
  case atStart => exact ⟨0, Nat.zero_le _, rfl, rfl, by show sx s l = _; rw [List.drop_zero]; split <;> omega⟩
  case round =>
    obtain ⟨k, hk, rfl, rfl, HK⟩ := hrel
    have hl := HB.out.len
    by_cases hlt : k < n
    · obtain ⟨b, off, rfl, hc⟩ := HB.out.at_ (by omega)
      have hck := hc k hlt
      by_cases hs : s = l.getD k .empty
      · have HX : Hid (sx s l = k) := by
          show sx s l = k
          rw [HK.out, drop_cons l k .empty (by omega)]
          have e0 : sx s (l.getD k .empty :: l.drop (k + 1)) = 0 := by show (if s = l.getD k .empty then 0 else _) = 0; rw [if_pos hs]
          rw [e0, if_neg (by decide)]; omega
        rw [← hs] at hck
        clear hc HK hs
        go_wp2
        go_ret
        exact ⟨ret_int HX.out.symm, rfl⟩
      · have HK2 := sx_drop s l k (by omega) hs HK.out
        have HK3 : Hid (sx s l = if sx s (l.drop (k + 1)) = -1 then -1 else sx s (l.drop (k + 1)) + (k + 1 : Nat)) := HK2
        clear hc HK HK2
        generalize l.getD k .empty = X at *
        have hs2 : (s.toList == X.toList) = false := str_ne hs
        go_wp2
        go_roundw
        case rel => exact ⟨k + 1, by omega, by go_num, by first | trivial | rfl, HK3⟩
        case measure => simp [intOf]; omega
    · obtain rfl : k = n := by omega
      have HX : Hid (sx s l = -1) := by
        show sx s l = -1
        rw [HK.out, List.drop_eq_nil_of_le (by omega)]
        rfl
      clear HK
      go_wp2
      go_ret
      exact ⟨ret_int HX.out.symm, rfl⟩
theorem group_num (ao : Option Addr) (cap : Nat) (l : List Int) (size groups : Int) (nv : Value) (w : World) (hB : BS w ao l.length cap l) (h3 : l.length ≤ 3) (hd : ∀ x ∈ l, dg x = true) :
    Calls Try.prog 24 #[.agg #[.int .i64 2, .slice ao l.length cap, .int .i64 size], .int .i64 groups, nv] w fun e w' => e = .returned (.tuple #[.int .i64 (val l), .bool (decide (val l ≤ groups))]) ∧ Below w.heap.size w w' := by
  have V := fun o => valueOf_any ao l.length cap l (w.alloc o) (hB.below ((Below.refl _ _).alloc (Nat.le_refl _) o)) h3 hd
  clear hB hd h3
  generalize val l = v at *
  generalize l.length = n at *
  go_enter Try.func24, Try.ntmps24
  go_wp2_with (go_at_call 40; refine (V _).mono ?_; rintro e w' ⟨rfl, hw⟩; subst hw)
  go_ret2
  exact ⟨rfl, (Below.refl _ _).alloc (Nat.le_refl _) _⟩

theorem group_nam (ao : Option Addr) (cap : Nat) (l : List Int) (size groups : Int) (aT : Option Addr) (nT cT : Nat) (T : List ByteArray) (w : World) (hB : BS w ao l.length cap l) (hT : TS w aT nT cT T) :
    Calls Try.prog 24 #[.agg #[.int .i64 3, .slice ao l.length cap, .int .i64 size], .int .i64 groups, .slice aT nT cT] w fun e w' => e = .returned (.tuple #[.int .i64 (sx (strOfNums l) (T.drop 1) + 1), .bool (decide (0 ≤ sx (strOfNums l) (T.drop 1)))]) ∧ Below w.heap.size w w' := by
  have hTl := hT.len
  have hTn := hT.nc
  have hTm := hT.cm
  rcases Nat.eq_zero_or_pos nT with h0 | h0
  · subst h0
    obtain rfl : T = [] := List.eq_nil_of_length_eq_zero hTl
    clear hB hT
    generalize l.length = n at *
    have e1 : sx (strOfNums l) (([] : List ByteArray).drop 1) = -1 := rfl
    rw [e1]
    go_enter Try.func24, Try.ntmps24
    go_wp2
    go_ret2
    exact ⟨rfl, (Below.refl _ _).alloc (Nat.le_refl _) _⟩
  · have hge := sx_ge (strOfNums l) (T.drop 1)
    have hlt := sx_lt (strOfNums l) (T.drop 1)
    rw [List.length_drop] at hlt
    have CV : ∀ (o : Obj) (q : Nat), (convert 22 9 (.slice ao l.length cap)).run Try.prog ((w.alloc o).drewN q) = .ok (.string (strOfNums l)) ((w.alloc o).drewN q) := fun o q => (hB.below (below_drewN ((Below.refl _ _).alloc (Nat.le_refl _) o) q)).bts
    obtain ⟨b, off, rfl, hc⟩ := hT.at_ h0
    have h1i : (1 : Int) ≤ (nT : Int) := by omega
    by_cases hcap : cT = 1
    · subst hcap
      obtain rfl : nT = 1 := by omega
      have e1 : T.drop 1 = [] := List.drop_eq_nil_of_le (by omega)
      rw [e1] at hge hlt ⊢
      have SX : Hid (∀ W, Calls Try.prog 41 #[.slice (some ⟨b, off, none⟩) 0 0, .string (strOfNums l)] W fun e w' => e = .returned (.int .i64 (sx (strOfNums l) [])) ∧ w' = W) := fun W => sindex_any _ _ _ _ _ W ⟨rfl, Nat.le_refl _, by omega, (fun e => by cases e), .inl rfl⟩
      clear hB hT hc
      have e2 : sx (strOfNums l) [] = -1 := rfl
      rw [e2] at SX ⊢
      generalize strOfNums l = S at *
      generalize l.length = n at *
      go_enter Try.func24, Try.ntmps24
      go_wp2
      go_quiet (exact (SX.out _).mono fun _ _ h => ⟨h.1, _, h.2⟩)
      go_wp2
      go_ret2
      exact ⟨rfl, below_drewN ((Below.refl _ _).alloc (Nat.le_refl _) _) _⟩
    · have SX : Hid (∀ (o : Obj) (q : Nat), Calls Try.prog 41 #[.slice (some ⟨b, off + 1, none⟩) (nT - 1) (cT - 1), .string (strOfNums l)] ((w.alloc o).drewN q) fun e w' => e = .returned (.int .i64 (sx (strOfNums l) (T.drop 1))) ∧ w' = (w.alloc o).drewN q) := fun o q => sindex_any _ _ _ _ _ _ (TS.below (w := w) ⟨by rw [List.length_drop]; omega, by omega, by omega, (fun e => by cases e), .inr ⟨b, off + 1, rfl, fun i hi => by
          have := hc (1 + i) (by omega)
          rw [← Nat.add_assoc] at this
          rw [this, List.getD_eq_getElem?_getD, List.getD_eq_getElem?_getD, List.getElem?_drop]⟩⟩ (below_drewN ((Below.refl _ _).alloc (Nat.le_refl _) o) q))
      clear hB hT hc
      generalize sx (strOfNums l) (T.drop 1) = X at *
      generalize strOfNums l = S at *
      generalize l.length = n at *
      go_enter Try.func24, Try.ntmps24
      go_wp2
      go_quiet (exact (SX.out _ _).mono fun _ _ h => ⟨h.1, _, h.2⟩)
      go_wp2
      go_ret2
      exact ⟨rfl, below_drewN ((Below.refl _ _).alloc (Nat.le_refl _) _) _⟩
end Go.Proofs.Ytfnndnlhdfjggaa.edt
