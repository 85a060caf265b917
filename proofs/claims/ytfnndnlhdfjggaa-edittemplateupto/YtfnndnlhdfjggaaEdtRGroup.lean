/- What the document's word and group answer. -/
import Derived.Test.YtfnndnlhdfjggaaEdtGroup
set_option linter.unusedVariables false
set_option linter.unusedSimpArgs false
namespace Go.Proofs.Ytfnndnlhdfjggaa.edt
open Go.RowKit

theorem ix_step (c : Int) (l : List Int) (k : Nat) (h : k < l.length) (hne : ¬ l.getD k 0 = c) (hk : ix c l = if ix c (l.drop k) = -1 then -1 else ix c (l.drop k) + k) :
    ix c l = if ix c (l.drop (k + 1)) = -1 then -1 else ix c (l.drop (k + 1)) + (k + 1 : Nat) := by
  have e : ix c (l.drop k) = if ix c (l.drop (k + 1)) = -1 then -1 else ix c (l.drop (k + 1)) + 1 := by
    rw [drop_cons l k 0 h]
    show (if l.getD k 0 = c then 0 else if ix c (l.drop (k + 1)) = -1 then -1 else ix c (l.drop (k + 1)) + 1) = _
    rw [if_neg hne]
  have h1 := ix_ge c (l.drop (k + 1))
  rw [hk, e]
  by_cases h2 : ix c (l.drop (k + 1)) = -1
  · rw [if_pos h2, if_pos rfl, if_pos h2]
  · rw [if_neg h2, if_neg h2, if_neg (by omega)]; omega
/-- What word answers. -/
def wordV (l : List Int) : Value := if ix 125 l = -1 then .tuple #[.string ⟨#[]⟩, .bool false] else .tuple #[.string (strOfNums (l.take (ix 125 l).toNat)), .bool true]
theorem word_any (ao : Option Addr) (n cap : Nat) (l : List Int) (w : World) (hB : BS w ao n cap l) :
    Calls Try.prog 26 #[.slice ao n cap] w fun e w' => e = .returned (wordV l) ∧ w' = w := by
  have hn := hB.nc
  have hm := hB.cm
  have hl : Hid (l.length = n) := hB.len
  have HB : Hid (BS w ao n cap l) := hB
  clear hB
  go_enter Try.func26, Try.ntmps26
  go_wp2
  go_loopw [8] (fun i wr => ∃ k : Nat, k ≤ n ∧ i = .int .i64 k ∧ wr = w ∧ Hid (ix 125 l = if ix 125 (l.drop k) = -1 then -1 else ix 125 (l.drop k) + k)) (fun i _ => n - (intOf i).toNat)
  case atStart => exact ⟨0, Nat.zero_le _, rfl, rfl, by show ix 125 l = _; rw [List.drop_zero]; split <;> omega⟩
  case round =>
    obtain ⟨k, hk, rfl, rfl, HK⟩ := hrel
    by_cases hlt : k < n
    · obtain ⟨b, off, rfl, hc⟩ := HB.out.at_ (by omega)
      have hck := hc k hlt
      have hkl : k < l.length := by rw [hl.out]; exact hlt
      by_cases hs : l.getD k 0 = 125
      · have HX : Hid (ix 125 l = k) := by
          show ix 125 l = k
          rw [HK.out, drop_cons l k 0 hkl]
          have e0 : ix 125 (l.getD k 0 :: l.drop (k + 1)) = 0 := by show (if l.getD k 0 = 125 then 0 else _) = 0; rw [if_pos hs]
          rw [e0, if_neg (by decide)]; omega
        rw [hs] at hck
        have CV : (convert 22 9 (.slice (some ⟨b, off, none⟩) k cap)).run Try.prog wr = .ok (.string (strOfNums (l.take k))) wr := by
          have := (HB.out.sub 0 k (Nat.zero_le _) hk).bts
          rw [if_neg (by omega), List.drop_zero, Nat.sub_zero, Nat.sub_zero, show Option.map (fun x : Addr => x.add 0) (some ⟨b, off, none⟩) = some ⟨b, off, none⟩ from by simp [Addr.add]] at this
          exact this
        have hkc : (k : Int) ≤ (cap : Int) := by omega
        have hc0 : ¬ cap = 0 := by omega
        clear hc HK hs
        obtain ⟨S, hS⟩ : ∃ S, strOfNums (l.take k) = S := ⟨_, rfl⟩
        rw [hS] at CV
        have HSS : Hid (strOfNums (l.take k) = S) := hS
        clear hS
        go_wp2
        go_ret2
        exact ⟨by unfold wordV; rw [HX.out, if_neg (by omega), show ((k : Int)).toNat = k from by omega, HSS.out]; rfl, rfl⟩
      · have HK3 : Hid (ix 125 l = if ix 125 (l.drop (k + 1)) = -1 then -1 else ix 125 (l.drop (k + 1)) + (k + 1 : Nat)) := ix_step 125 l k hkl hs HK.out
        clear hc HK
        generalize l.getD k 0 = X at *
        have hs2 : (X == 125) = false := by simpa using hs
        go_wp2
        go_roundw
        case rel => exact ⟨k + 1, by omega, by go_num, by first | trivial | rfl, HK3⟩
        case measure => simp [intOf]; omega
    · obtain rfl : k = n := by omega
      have HX : Hid (ix 125 l = -1) := by
        show ix 125 l = -1
        rw [HK.out, List.drop_eq_nil_of_le (by rw [hl.out]; exact Nat.le_refl _)]
        rfl
      clear HK
      go_wp2
      go_ret2
      exact ⟨by unfold wordV; rw [if_pos HX.out]; rfl, rfl⟩
/-- Whether the first bytes may be a name's. -/
def nmK (d : List Int) (k : Nat) : Bool := decide (1 ≤ d.length) && (List.range k).all fun j => lt_ (d.getD j 0) || (dg (d.getD j 0) && decide (0 < j))
theorem nmK_succ (d : List Int) (k : Nat) : nmK d (k + 1) = (nmK d k && (lt_ (d.getD k 0) || (dg (d.getD k 0) && decide (0 < k)))) := by
  unfold nmK
  rw [List.range_succ, List.all_append, List.all_cons, List.all_nil, Bool.and_true, Bool.and_assoc]
def dgK (d : List Int) (k : Nat) : Bool := decide (1 ≤ d.length) && decide (d.length ≤ 3) && (d.take k).all dg
theorem dgK_succ (d : List Int) (k : Nat) (h : k < d.length) : dgK d (k + 1) = (dgK d k && dg (d.getD k 0)) := by
  unfold dgK
  rw [take_snoc d k 0 h, List.all_append, List.all_cons, List.all_nil, Bool.and_true]
  simp only [Bool.and_assoc]
/-- The group that a word names, or the error. -/
def grpV (d : List Int) (groups : Int) (T : List ByteArray) : Int × Int :=
  if dgK d d.length then (if groups < val d then (0, 151) else (val d, 0))
  else if nmK d d.length then (if sx (strOfNums d) (T.drop 1) = -1 then (0, 151) else (sx (strOfNums d) (T.drop 1) + 1, 0))
  else (0, 220)
theorem str_size (d : List Int) : (strOfNums d).size = d.length := by
  have := congrArg List.length (Lib.strOfNums_toList d)
  rw [Lib.bytesOf_length, Lib.toList_data, Array.length_toList] at this
  exact this
theorem str_get (d : List Int) (hr : ∀ x ∈ d, 0 ≤ x ∧ x ≤ 255) (p : Nat) (h : p < (strOfNums d).size) : (((strOfNums d)[p]'h).toNat : Int) = d.getD p 0 := by
  have hp : p < d.length := by rw [← str_size]; exact h
  have e1 : (strOfNums d).data.toList[p]? = (Lib.bytesOf d)[p]? := by rw [← Lib.toList_data, Lib.strOfNums_toList]
  have e2 : (strOfNums d).data.toList[p]? = some ((strOfNums d)[p]'h) := by
    rw [List.getElem?_eq_getElem (by simpa using h)]; rfl
  rw [e2] at e1
  unfold Lib.bytesOf at e1
  rw [List.getElem?_map, List.getElem?_eq_getElem hp, Option.map_some, Option.some.injEq] at e1
  rw [e1, List.getD_eq_getElem?_getD, List.getElem?_eq_getElem hp, Option.getD_some]
  have := hr d[p] (List.getElem_mem hp)
  rw [UInt8.toNat_ofNat', Nat.mod_eq_of_lt (by omega)]
  omega
theorem sx_up (S : ByteArray) (T : List ByteArray) (k : Nat) (h1 : 1 ≤ k) (h : k < T.length) (hne : ¬ S = T.getD k .empty) (hk : sx S (T.drop 1) = if sx S (T.drop k) = -1 then -1 else sx S (T.drop k) + (k - 1 : Nat)) :
    sx S (T.drop 1) = if sx S (T.drop (k + 1)) = -1 then -1 else sx S (T.drop (k + 1)) + (k + 1 - 1 : Nat) := by
  have e : sx S (T.drop k) = if sx S (T.drop (k + 1)) = -1 then -1 else sx S (T.drop (k + 1)) + 1 := by
    rw [drop_cons T k .empty h]
    show (if S = T.getD k .empty then 0 else if sx S (T.drop (k + 1)) = -1 then -1 else sx S (T.drop (k + 1)) + 1) = _
    rw [if_neg hne]
  have h2 := sx_ge S (T.drop (k + 1))
  rw [hk, e]
  by_cases c : sx S (T.drop (k + 1)) = -1
  · rw [if_pos c, if_pos rfl, if_pos c]
  · rw [if_neg c, if_neg c, if_neg (by omega)]; omega

end Go.Proofs.Ytfnndnlhdfjggaa.edt
