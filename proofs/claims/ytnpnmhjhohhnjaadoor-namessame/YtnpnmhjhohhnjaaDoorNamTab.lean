/- The file of names as a table. -/
import Derived.Test.YtnpnmhjhohhnjaaDoorNamData
import Derived.Test.YtnpnmhjhohhnjaaDoorNamKey
import Derived.Test.YtnpnmhjhohhnjaaDoorLinRows
set_option linter.unusedVariables false
set_option linter.unusedSimpArgs false
namespace Go.Proofs.YtnpnmhjhohhnjaaDoor.nam
open Go.RowKit lin

/-- A row says this name, loosely, of that kind; the first one that does. -/
def hit (x : List UInt8 × List UInt8) (r : R3) : Bool := r.1 == x.1 && (looseL r.2.1 == x.2 || looseL r.2.2 == x.2)
def lookL (x : List UInt8 × List UInt8) : Option R3 := rowsL.find? (hit x)
/-- Both names as a value. -/
def al (r : R3) : Value := .agg #[.string (BA r.2.1), .string (BA r.2.2)]
def tab : List R3 → ByteArray × ByteArray → Option Value
  | [] => fun _ => none
  | r :: rest => upd (upd (tab rest) (BA r.1, BA (looseL r.2.1)) (al r)) (BA r.1, BA (looseL r.2.2)) (al r)
theorem BA_inj (a : ByteArray) (l : List UInt8) : a = BA l ↔ a.data.toList = l := by
  constructor
  · rintro rfl; rfl
  · intro e; rw [← e, BA_list]
theorem tab_find (L : List R3) (x : ByteArray × ByteArray) : tab L x = (L.find? (hit (x.1.data.toList, x.2.data.toList))).map al := by
  induction L with
  | nil => rfl
  | cons r rest ih =>
    have h1 : ∀ l, (x = (BA r.1, BA l)) ↔ (x.1.data.toList = r.1 ∧ x.2.data.toList = l) := fun l => by
      rw [Prod.ext_iff, ← BA_inj, ← BA_inj]
    unfold tab upd
    rw [List.find?_cons]
    cases hh : hit (x.1.data.toList, x.2.data.toList) r with
    | true =>
      unfold hit at hh
      simp only [Bool.and_eq_true, Bool.or_eq_true, beq_iff_eq] at hh
      simp only [Option.map_some]
      rcases hh.2 with h2 | h2
      · by_cases h3 : x = (BA r.1, BA (looseL r.2.2))
        · rw [if_pos h3]
        · rw [if_neg h3, if_pos ((h1 _).2 ⟨hh.1.symm, h2.symm⟩)]
      · rw [if_pos ((h1 _).2 ⟨hh.1.symm, h2.symm⟩)]
    | false =>
      have hn : ∀ l, l = looseL r.2.1 ∨ l = looseL r.2.2 → x ≠ (BA r.1, BA l) := fun l hl e => by
        obtain ⟨e1, e2⟩ := (h1 l).1 e
        unfold hit at hh
        rw [e1, e2] at hh
        rcases hl with rfl | rfl <;> simp at hh
      rw [if_neg (hn _ (.inr rfl)), if_neg (hn _ (.inl rfl))]
      exact ih
theorem tab_look (x : ByteArray × ByteArray) : tab rowsL x = (lookL (x.1.data.toList, x.2.data.toList)).map al := tab_find rowsL x

theorem rows_at (L : List (List UInt8)) : rowsOf (L.map BA) = (L.flatMap rowL).map (fun r => r.map BA) := by
  induction L with
  | nil => rfl
  | cons l rest ih =>
    unfold rowsOf at ih ⊢
    rw [List.map_cons, List.flatMap_cons, ih, List.flatMap_cons, List.map_append]
    congr 1
    unfold rowOf rowL
    rw [fieldsV_list, BA_data, List.length_map]
    by_cases h : fieldsL l = []
    · rw [if_pos h, if_pos (by rw [h]; rfl)]; rfl
    · rw [if_neg h, if_neg (fun e => h (List.eq_nil_of_length_eq_zero e))]; rfl
theorem rows_eq : rowsOf (cutV aliasB 10) = rowsL.map (fun r => [BA r.1, BA r.2.1, BA r.2.2]) := by
  have h := cutV_list aliasB 10
  rw [show ((10 : UInt8).toNat : Int) = 10 from rfl] at h
  rw [h, rows_at, rows_lit, List.map_map]
  rfl
theorem rows_n : rowsL.length = 51 := by decide +kernel
theorem rows_small : ∀ r ∈ rowsL, r.1.length ≤ 30 ∧ r.2.1.length ≤ 30 ∧ r.2.2.length ≤ 30 := by decide +kernel
theorem alias_n : aliasB.size ≤ 100000 := by decide +kernel

set_option maxRecDepth 1000000 in
theorem aliases_any (w : World) : Calls Tryd.prog 16 #[] w fun e w' => e = .returned (.string aliasB) ∧ w' = w := by
  go_enter Tryd.func16, Tryd.ntmps16
  go_wp2
  go_ret
  exact ⟨rfl, rfl⟩
end Go.Proofs.YtnpnmhjhohhnjaaDoor.nam
