/- The statements' own small call (awake) answers true; nothing that was there changes. -/
import Derived.Test.YtfnndnlhdfjggaaEdtTmpl
set_option linter.unusedVariables false
set_option linter.unusedSimpArgs false
namespace Go.Proofs.Ytfnndnlhdfjggaa.edt
open Go.RowKit

theorem awake_tm : tm [36, 50, 36, 49] 2 [] 5 0 [] = .ok [([], 2), ([], 1)] := by kernel_rfl
theorem TS.nilv (w : World) : TS w none 0 0 [] := ⟨rfl, Nat.le_refl _, by omega, fun _ => rfl, .inl rfl⟩
/-- A constant's bytes. -/
theorem bs_const (w : World) (l : List Int) (fz : Nat × Nat) (hl : l.length ≤ 1000000) (hr : ∀ x ∈ l, 0 ≤ x ∧ x ≤ 255) : BS (w.alloc (.cells (l.map (Value.int .u8)).toArray 5 fz)) (some ⟨w.heap.size, 0, none⟩) l.length l.length l := by
  refine ⟨rfl, Nat.le_refl _, by omega, (fun e => by cases e), range_mem hr, .inr ⟨_, _, rfl, fun i hi => ?_⟩⟩
  rw [Nat.zero_add, World.cell?_alloc_mark]
  simp [hi]

set_option maxHeartbeats 1000000 in
theorem awake_any (w : World) : Calls Try.prog 14 #[] w fun e w' => e = .returned (.bool true) ∧ Below w.heap.size w w' := by
  have CV := const_at w #[.int .u8 36, .int .u8 50, .int .u8 36, .int .u8 49] 4 4 w.heap.size rfl
  have HB := bs_const w [36, 50, 36, 49] (4, 5) (by decide) (by decide)
  obtain ⟨W, hW⟩ : ∃ W, w.alloc (.cells #[.int .u8 36, .int .u8 50, .int .u8 36, .int .u8 49] 5 (4, 5)) = W := ⟨_, rfl⟩
  have CV' : (convert 22 22 (.slice (some ⟨w.heap.size, 0, none⟩) 4 4)).run Try.prog (w.alloc (.cells #[.int .u8 36, .int .u8 50, .int .u8 36, .int .u8 49] 5)) = .ok (.slice (some ⟨w.heap.size, 0, none⟩) 4 4) W := by rw [← hW]; exact CV
  have HB' : BS W (some ⟨w.heap.size, 0, none⟩) 4 4 [36, 50, 36, 49] := by rw [← hW]; exact HB
  have B0 : Below w.heap.size w W := by rw [← hW]; exact (Below.refl _ w).alloc (Nat.le_refl _) _
  have C := tmpl_any (some ⟨w.heap.size, 0, none⟩) 4 4 [36, 50, 36, 49] 2 none 0 0 [] W HB' (TS.nilv W) (by decide)
  rw [show (4 + 1 : Nat) = 5 from rfl, awake_tm] at C
  have HB0 : Hid (Below w.heap.size w W) := B0
  clear B0 HB HB' CV hW
  go_enter Try.func14, Try.ntmps14
  go_wp2_with fail
  refine C.mono ?_
  rintro e w1 ⟨⟨v, qs, rfl, hP, hq⟩, hb1⟩
  have hql : qs.length = 2 := by have := congrArg List.length hq; simpa using this
  have hrow := hP.row
  obtain ⟨g, vc, rfl, _, hg⟩ := hrow.form (by omega)
  rw [hql] at hrow
  have hc : ∀ o, (w1.alloc o).cell? ⟨g, 1, none⟩ = some (.int .i64 2) := fun o => by
    have h0 : qs[0]? = some (qs[0]'(by omega)) := List.getElem?_eq_getElem (by omega)
    have h1 := (flatP_get qs 0 _ h0).2
    have h2 : (qs[0]'(by omega)).2 = (([] : List Int), (2 : Int)) := by
      have := congrArg (fun l : List Pt => l[0]?) hq
      simp only [List.getElem?_map, h0, Option.map_some] at this
      simpa using this
    rw [h2] at h1
    have h3 := (hrow.cellAt 1 (by omega)).trans h1
    rw [← h3]
    exact World.cell?_of_block (Below.heap_alloc w1 o g hg)
  rw [hql]
  have hne : ¬ g = w1.heap.size := by omega
  have HB1 : Hid (Below w.heap.size w w1) := HB0.out.trans (hb1.mono HB0.out.size)
  clear C CV' hP hq hb1 hrow HB0 hql
  go_wp2
  go_ret
  refine ⟨rfl, ?_⟩
  have := HB1.out
  (repeat' first | exact this | refine Below.setCell ?_ (by have := this.size; simp; omega) _ | refine Below.alloc ?_ (by have := this.size; simp; omega) _)
end Go.Proofs.Ytfnndnlhdfjggaa.edt
