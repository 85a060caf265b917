/- Texts that the proof leans on, one behind the other. -/
import Derived.Test.YtcmhkfiijdomiaaGreatDoorBdPrp8

section
/- The document's Category, Script, Word, Cluster, Combining. -/
set_option linter.unusedVariables false
set_option linter.unusedSimpArgs false
namespace Go.Proofs.YtcmhkfiijdomiaaGreatDoor.prp
open Go.RowKit Go.Maps lin

theorem view_sl {w : World} {v : Value} {rs : List RecT} (h : View w v rs) : ∃ a c, v = .slice a rs.length c := by obtain ⟨a, c, e, _⟩ := h; exact ⟨a, c, e⟩
set_option maxHeartbeats 1000000 in
set_option maxRecDepth 1000000 in
theorem rcategory_t (t : Nat) (r : Int) (w : World) (h : RTabs w t) : Calls Tryz.prog 52 #[.pointer (some ⟨t, 0, none⟩), .int .i64 r] w fun e w' => e = .returned (.string (BA (sF [67, 110] catL r))) ∧ Below w.heap.size w w' := by
  obtain ⟨v, hc, hV⟩ := h.cat
  have C := or_any v catL r [67, 110] w hV cat_ok.1 cat_ok.2.1 (fun x hx => (cat_ok.2.2 x hx).1)
  rw [show orF catL r [67, 110] = sF [67, 110] catL r from (sF_first [67, 110] catL cat_apart r).symm] at C
  generalize sF [67, 110] catL r = X at *
  rw [show BA [67, 110] = ⟨#[67, 110]⟩ from rfl] at C
  obtain ⟨a, c, rfl⟩ := view_sl hV
  generalize (catL.map recOf).length = n at *
  clear h hV
  go_enter Tryz.func52, Tryz.ntmps52
  go_wp2_with fail
  refine C.mono ?_
  rintro e w1 ⟨rfl, hb⟩
  clear C
  go_wp2
  try rw [Exit.noGoto_ret]
  go_ret
  exact ⟨rfl, hb⟩
set_option maxHeartbeats 1000000 in
set_option maxRecDepth 1000000 in
theorem rword_t (t : Nat) (r : Int) (w : World) (h : RTabs w t) : Calls Tryz.prog 41 #[.pointer (some ⟨t, 0, none⟩), .int .i64 r] w fun e w' => e = .returned (.string (BA (sF [] worL r))) ∧ Below w.heap.size w w' := by
  obtain ⟨v, hc, hV⟩ := h.wor
  have C := or_any v worL r [] w hV wor_ok.1 wor_ok.2.1 wor_ok.2.2
  rw [show orF worL r [] = sF [] worL r from (sF_first [] worL wor_apart r).symm] at C
  generalize sF [] worL r = X at *
  rw [show BA [] = ⟨#[]⟩ from rfl] at C
  obtain ⟨a, c, rfl⟩ := view_sl hV
  generalize (worL.map recOf).length = n at *
  clear h hV
  go_enter Tryz.func41, Tryz.ntmps41
  go_wp2_with fail
  refine C.mono ?_
  rintro e w1 ⟨rfl, hb⟩
  clear C
  go_wp2
  try rw [Exit.noGoto_ret]
  go_ret
  exact ⟨rfl, hb⟩
theorem dig_bound (l : List UInt8) (h : l.length ≤ 3) : 0 ≤ digL l ∧ digL l ≤ 28305 := by
  match l, h with
  | [], _ => exact ⟨by decide, by decide⟩
  | [a], _ =>
    have ha : (a - 48).toNat < 256 := UInt8.toNat_lt _
    simp only [digL, List.foldl_cons, List.foldl_nil]
    omega
  | [a, b], _ =>
    have ha : (a - 48).toNat < 256 := UInt8.toNat_lt _
    have hb : (b - 48).toNat < 256 := UInt8.toNat_lt _
    simp only [digL, List.foldl_cons, List.foldl_nil]
    omega
  | [a, b, c], _ =>
    have ha : (a - 48).toNat < 256 := UInt8.toNat_lt _
    have hb : (b - 48).toNat < 256 := UInt8.toNat_lt _
    have hc : (c - 48).toNat < 256 := UInt8.toNat_lt _
    simp only [digL, List.foldl_cons, List.foldl_nil]
    omega
theorem dig_snoc (l : List UInt8) (c : UInt8) : digL (l ++ [c]) = 10 * digL l + ((c - 48).toNat : Int) := by unfold digL; rw [List.foldl_append]; rfl
theorem sub48 (c : UInt8) : IntKind.u8.wrap ((c.toNat : Int) - 48) = ((c - 48).toNat : Int) := by
  have h := UInt8.toNat_lt c
  rw [UInt8.toNat_sub]
  simp [IntKind.wrap, IntKind.signed, IntKind.bits]
  omega
end Go.Proofs.YtcmhkfiijdomiaaGreatDoor.prp
end
