/- What utf.Prev and the document's Prev answer: the last item of the bytes ahead of a place. -/
import Derived.Test.YtamcaomenbgabaaDoorUtfSteps
set_option linter.unusedVariables false
set_option linter.unusedSimpArgs false
namespace Go.Proofs.YtamcaomenbgabaaDoor.utf
open Go.RowKit

theorem prev_no (ao : Option Addr) (n cap : Nat) (a : Int) (w : World) (ha : a < 1 ∨ (n : Int) < a) :
    Calls Tryd.prog 7 #[.slice ao n cap, .int .i64 a] w fun e w' => e = .returned (.tuple #[.agg #[.int .i64 0, .int .i64 0, .int .i64 0], .bool false]) ∧ Below w.heap.size w w' := by
  rcases ha with ha | ha
  · go_enter Tryd.func7, Tryd.ntmps7
    go_wp2
    refine bodyPost_ret (v := .tuple #[.agg #[.int .i64 0, .int .i64 0, .int .i64 0], .bool false]) (by simp [results, Tryd.results7, go_sem]) rfl ⟨rfl, ?_⟩
    exact (Below.refl _ _).alloc (Nat.le_refl _) _
  · have hp : ¬ a < 1 := by omega
    go_enter Tryd.func7, Tryd.ntmps7
    go_wp2
    refine bodyPost_ret (v := .tuple #[.agg #[.int .i64 0, .int .i64 0, .int .i64 0], .bool false]) (by simp [results, Tryd.results7, go_sem]) rfl ⟨rfl, ?_⟩
    exact (Below.refl _ _).alloc (Nat.le_refl _) _
theorem last_getD {l : List (Int × Nat × Nat)} {x : Int × Nat × Nat} (h : l.getLast? = some x) : l.getD (l.length - 1) (0, 0, 0) = x := by
  rw [List.getLast?_eq_getElem?] at h
  rw [List.getD_eq_getElem?_getD, h]
  rfl

/-- A block of three cells behind three stores into it. -/
theorem set3 {w : World} {g : Nat} {x y z : Value} {t : TypeId} (h : w.heap[g]? = some (.cells #[x, y, z] t (0, 0))) (p q r : Value) :
    (((w.setCell ⟨g, 0, none⟩ p).setCell ⟨g, 1, none⟩ q).setCell ⟨g, 2, none⟩ r).heap[g]? = some (.cells #[p, q, r] t (0, 0)) := by
  simp [World.setCell, Array.getElem?_modify, h]
theorem set3_other {w : World} {g k : Nat} (hk : k ≠ g) (p q r : Value) :
    (((w.setCell ⟨g, 0, none⟩ p).setCell ⟨g, 1, none⟩ q).setCell ⟨g, 2, none⟩ r).heap[k]? = w.heap[k]? := by
  rw [Below.heap_setCell _ _ _ _ hk, Below.heap_setCell _ _ _ _ hk, Below.heap_setCell _ _ _ _ hk]

set_option maxHeartbeats 1000000 in
theorem prev_yes (b off n cap m : Nat) (f : Nat → Int) (R : Int) (s E : Nat) (w : World) (hc : ∀ i, i < n → w.cell? ⟨b, off + i, none⟩ = some (.int .u8 (f i)))
    (h1 : 1 ≤ m) (hm : m ≤ n) (hn : n ≤ 9223372036854775807) (hcap : n ≤ cap) (hf : ∀ i, 0 ≤ f i ∧ f i ≤ 255) (hl : (items f m 0).getLast? = some (R, s, E)) :
    Calls Tryd.prog 7 #[.slice (some ⟨b, off, none⟩) n cap, .int .i64 m] w fun e w' =>
      e = .returned (.tuple #[.agg #[.int .i64 R, .int .i64 s, .int .i64 E], .bool true]) ∧ Below w.heap.size w w' := by
  have HC : Hid (∀ i, i < m → w.cell? ⟨b, off + i, none⟩ = some (.int .u8 (f i))) := fun i hi => hc i (by omega)
  have HF : Hid (∀ i, 0 ≤ f i ∧ f i ≤ 255) := hf
  have HL : Hid ((items f m 0).getLast? = some (R, s, E)) := hl
  have ED := edge_any b off m cap f (w.alloc (.cells #[.int .i64 0, .int .i64 0, .int .i64 0] 26)) (cells_alloc HC.out _) h1 (by omega)
  have HB0 := (Below.refl w.heap.size w).alloc (Nat.le_refl _) (.cells #[.int .i64 0, .int .i64 0, .int .i64 0] 26)
  have HG : Hid ((w.alloc (.cells #[.int .i64 0, .int .i64 0, .int .i64 0] 26)).heap[w.heap.size]? = some (.cells #[.int .i64 0, .int .i64 0, .int .i64 0] 26 (0, 0))) := heap_alloc_new w _
  clear hc hf hl
  go_enter Tryd.func7, Tryd.ntmps7
  go_wp2_with fail
  refine ED.mono ?_
  rintro e w0 ⟨t, rfl, hedge, hw0⟩
  subst hw0
  have HE : Hid ((items f m t).getLast? = some (R, s, E)) := (edge_last f m t hedge).trans HL.out
  have htm := hedge.1
  clear ED hedge HL
  go_wp2_with fail
  refine (item_any b off m cap f t _ (cells_alloc HC.out _) htm (by omega) HF.out).mono ?_
  rintro e w1 ⟨rfl, hb1⟩
  have hie := it_end f m t htm
  have hs := hb1.size
  simp only [World.size_alloc] at hs
  have HG1 : Hid (w1.heap[w.heap.size]? = some (.cells #[.int .i64 0, .int .i64 0, .int .i64 0] 26 (0, 0))) := (hb1.block w.heap.size (by simp)).trans HG.out
  have R1 := HB0.trans (hb1.mono (by simp))
  have HA : Hid (it f m t = it f m t) := rfl
  clear HG hb1 HB0
  have HX := heap_alloc_new w1 (.cells #[.int .i64 (it f m t).1, .int .i64 t, .int .i64 (it f m t).2.1] 26)
  have HXH : Hid ((w1.alloc (.cells #[.int .i64 (it f m t).1, .int .i64 t, .int .i64 (it f m t).2.1] 26)).heap[w1.heap.size]? = some (.cells #[.int .i64 (it f m t).1, .int .i64 t, .int .i64 (it f m t).2.1] 26 (0, 0))) := HX
  have HG2 : Hid ((w1.alloc (.cells #[.int .i64 (it f m t).1, .int .i64 t, .int .i64 (it f m t).2.1] 26)).heap[w.heap.size]? = some (.cells #[.int .i64 0, .int .i64 0, .int .i64 0] 26 (0, 0))) := by
    rw [show Hid _ = _ from rfl, Below.heap_alloc _ _ _ (by omega)]; exact HG1.out
  have R2 := R1.alloc R1.size (.cells #[.int .i64 (it f m t).1, .int .i64 t, .int .i64 (it f m t).2.1] 26)
  clear HX HG1 R1
  go_wp2
  go_loopg [33] (m - t) (fun k _ wr => ∃ a : Nat, a < m ∧ k = m - a ∧ Hid (wr.heap[w1.heap.size]? = some (.cells #[.int .i64 (it f m a).1, .int .i64 a, .int .i64 (it f m a).2.1] 26 (0, 0))) ∧ Hid (wr.heap[w.heap.size]? = some (.cells #[.int .i64 0, .int .i64 0, .int .i64 0] 26 (0, 0))) ∧ Hid ((items f m a).getLast? = some (R, s, E)) ∧ Below w.heap.size w wr)
  case atStart => exact ⟨t, htm, rfl, HXH, HG2, HE, R2⟩
  case round =>
    obtain ⟨a, ham, hka, HXr, HGr, HLr, hbel⟩ := hrel
    have hie2 := it_end f m a ham
    clear HXH HG2 HE R2 hie
    have HCr : Hid (∀ i, i < m → wr.cell? ⟨b, off + i, none⟩ = some (.int .u8 (f i))) := fun i hi => (hbel.cell (World.block_lt_of_cell? w _ (HC.out i hi))).trans (HC.out i hi)
    obtain ⟨x0, x1, x2, y0, y1, y2⟩ := blk3 HXr.out
    have HK : Hid (gk = m - a) := hka
    clear hka
    by_cases hlt : (it f m a).2.1 < m
    · have HL2 : Hid ((items f m (it f m a).2.1).getLast? = some (R, s, E)) := (last_go f m a ham hlt).trans HLr.out
      have IT := item_any b off m cap f (it f m a).2.1 wr HCr.out hlt (by omega) HF.out
      clear HLr
      generalize (it f m a).1 = Ra at *
      generalize (it f m a).2.1 = Ea at *
      go_wp2_with fail
      refine IT.mono ?_
      rintro e w2 ⟨rfl, hb2⟩
      have hX2 := (hb2.block w1.heap.size (Array.getElem?_eq_some_iff.1 HXr.out).1).trans HXr.out
      have HGx : Hid (w2.heap[w.heap.size]? = some (.cells #[.int .i64 0, .int .i64 0, .int .i64 0] 26 (0, 0))) := (hb2.block w.heap.size (Array.getElem?_eq_some_iff.1 HGr.out).1).trans HGr.out
      have HXx : Hid (w2.heap[w1.heap.size]? = _) := hX2
      obtain ⟨g0, g1, g2, z0, z1, z2⟩ := blk3 hX2
      have R3 := hbel.trans (hb2.mono hbel.size)
      have hwx : w.heap.size ≤ w1.heap.size := by omega
      have R4 := ((R3.setCell (p := ⟨w1.heap.size, 0, none⟩) hwx (.int .i64 (it f m Ea).1)).setCell (p := ⟨w1.heap.size, 1, none⟩) hwx (.int .i64 Ea)).setCell (p := ⟨w1.heap.size, 2, none⟩) hwx (.int .i64 (it f m Ea).2.1)
      have HXn : Hid ((((w2.setCell ⟨w1.heap.size, 0, none⟩ (.int .i64 (it f m Ea).1)).setCell ⟨w1.heap.size, 1, none⟩ (.int .i64 Ea)).setCell ⟨w1.heap.size, 2, none⟩ (.int .i64 (it f m Ea).2.1)).heap[w1.heap.size]? = some (.cells #[.int .i64 (it f m Ea).1, .int .i64 Ea, .int .i64 (it f m Ea).2.1] 26 (0, 0))) := set3 hX2 _ _ _
      have HGn : Hid ((((w2.setCell ⟨w1.heap.size, 0, none⟩ (.int .i64 (it f m Ea).1)).setCell ⟨w1.heap.size, 1, none⟩ (.int .i64 Ea)).setCell ⟨w1.heap.size, 2, none⟩ (.int .i64 (it f m Ea).2.1)).heap[w.heap.size]? = some (.cells #[.int .i64 0, .int .i64 0, .int .i64 0] 26 (0, 0))) := (set3_other (by omega) _ _ _).trans HGx.out
      clear hX2 HGx HXx IT hb2 hbel R3 HXr HGr HCr
      go_wp2
      go_roundg (m - Ea)
      case measure => have := HK.out; omega
      case rel => exact ⟨Ea, hlt, rfl, HXn, HGn, HL2, R4⟩
    · have hend := HLr.out.symm.trans (last_end f m a ham hlt)
      simp only [Option.some.injEq, Prod.mk.injEq] at hend
      obtain ⟨e1, e2, e3⟩ := hend
      rw [← e1] at x0
      rw [← e2] at x1
      rw [← e3] at x2 hlt
      obtain ⟨g0, g1, g2, z0, z1, z2⟩ := blk3 HGr.out
      clear e1 e2 e3 hie2 HXr HGr HLr HCr
      have hne : w.heap.size ≠ w1.heap.size := by omega
      have hlt2 : ¬ (E : Int) < (m : Int) := by omega
      have R4 := ((hbel.setCell (p := ⟨w.heap.size, 0, none⟩) (Nat.le_refl _) (.int .i64 R)).setCell (p := ⟨w.heap.size, 1, none⟩) (Nat.le_refl _) (.int .i64 s)).setCell (p := ⟨w.heap.size, 2, none⟩) (Nat.le_refl _) (.int .i64 E)
      go_wp2
      refine bodyPost_ret (v := .tuple #[.agg #[.int .i64 R, .int .i64 s, .int .i64 E], .bool true]) (by simp [results, Tryd.results7, go_sem, g0, g1, g2]) rfl ⟨rfl, R4⟩
end Go.Proofs.YtamcaomenbgabaaDoor.utf
