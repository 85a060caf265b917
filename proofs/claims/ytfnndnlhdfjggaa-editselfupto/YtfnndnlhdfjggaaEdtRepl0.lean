/- What edit's bytesOf, groupsLie and expand answer at a match of one span. -/
import Derived.Test.YtfnndnlhdfjggaaEdtFo
import Derived.Test.YtfnndnlhdfjggaaEdtParts
set_option linter.unusedVariables false
set_option linter.unusedSimpArgs false
namespace Go.Proofs.Ytfnndnlhdfjggaa.edt
open Go.RowKit

theorem groupsLie_none (ao : Option Addr) (cap : Nat) (z : Int) (w : World) :
    Calls Try.prog 42 #[.slice ao 0 cap, .int .i64 z] w fun e w' => e = .returned (.bool true) ∧ Below w.heap.size w w' := by
  go_enter Try.func42, Try.ntmps42
  go_wp2
  refine wp_loop_rounds 1 ?_
  rw [rounds_succ]
  go_wp2
  go_ret
  exact ⟨rfl, (Below.refl _ _).alloc (Nat.le_refl _) _⟩

/-- A group's bytes: those of the span. -/
theorem bytesOf_any (ao : Option Addr) (n cap : Nat) (b : List Int) (g x y : Nat) (w : World) (hB : BS w ao n cap b) (h1 : w.cell? ⟨g, 0, none⟩ = some (.int .i64 x)) (h2 : w.cell? ⟨g, 1, none⟩ = some (.int .i64 y)) (hxy : x ≤ y) (hyn : y ≤ n) :
    Calls Try.prog 43 #[.int .i64 0, .slice ao n cap, .agg #[.slice (some ⟨g, 0, none⟩) 1 1]] w fun e w' => ∃ ao' m c, e = .returned (.slice ao' m c) ∧ BS w ao' m c ((b.drop x).take (y - x)) ∧ Below w.heap.size w w' := by
  have hly : ly ((x : Int), (y : Int)) 0 n = true := (ly_iff _ _ _).2 ⟨by simp, by simp only; omega, by simp only; omega⟩
  have L := fun W => lies_any x y 0 n W
  simp only [hly] at L
  have hS := hB.sub x y hxy hyn
  have hnc := hB.nc
  have hcm := hB.cm
  have HS : Hid (BS w (if cap = x then ao else ao.map (fun z => z.add x)) (y - x) (cap - x) ((b.drop x).take (y - x))) := hS
  have hg := World.block_lt_of_cell? w _ h1
  simp only at hg
  have hgn : ¬ g = w.heap.size := by omega
  have d1 : ∀ o, (w.alloc o).cell? ⟨g, 0, none⟩ = some (.int .i64 x) := fun o => (World.cell?_of_block (Below.heap_alloc w o g hg)).trans h1
  have d2 : ∀ o, (w.alloc o).cell? ⟨g, 1, none⟩ = some (.int .i64 y) := fun o => (World.cell?_of_block (Below.heap_alloc w o g hg)).trans h2
  have hyc : (y : Int) ≤ (cap : Int) := by omega
  have hxy' : (x : Int) ≤ (y : Int) := by omega
  clear hB hS hly
  go_enter Try.func43, Try.ntmps43
  go_wp2_with fail
  refine (L _).mono ?_
  rintro e w1 ⟨rfl, hb1⟩
  have e0 : w1.cell? ⟨w.heap.size, 0, none⟩ = some (.slice (some ⟨g, 0, none⟩) 1 1) := (hb1.cell (by simp)).trans (by simp)
  have e1 : w1.cell? ⟨g, 0, none⟩ = some (.int .i64 x) := (hb1.cell (by simp; omega)).trans (d1 _)
  have e2 : w1.cell? ⟨g, 1, none⟩ = some (.int .i64 y) := (hb1.cell (by simp; omega)).trans (d2 _)
  have HB1 : Hid (Below w.heap.size w w1) := ((Below.refl w.heap.size w).alloc (Nat.le_refl _) _).trans (hb1.mono (by simp))
  clear L d1 d2 h1 h2 hb1
  go_wp2
  go_quiet (fail)
  go_wp2
  all_goals
    go_ret
    refine ⟨_, _, _, rfl, ?_, below_drewN HB1.out _⟩
    have h9 := HS.out
    first | (rw [if_pos (by assumption), show cap - x = 0 from by omega] at h9; exact h9) | (rw [if_neg (by assumption)] at h9; exact h9)
theorem infoSpan : (Try.prog.info? 54).map (fun i => (i.zero, i.size, i.bytes)) = some (some (.agg #[.int .i64 0, .int .i64 0]), 2, 16) := by kernel_rfl
/-- The first spans of a row in the making are those of the list. -/
def Put (xs : List Value) (l : List Sp) (k : Nat) : Prop := ∀ i, i < k → xs[i * 2]? = some (.int .i64 (l.getD i (0, 0)).1) ∧ xs[i * 2 + 1]? = some (.int .i64 (l.getD i (0, 0)).2)
theorem Put.next {xs : List Value} {l : List Sp} {k n : Nat} (h : Put xs l k) (hx : xs.length = n * 2) (hk : k < n) : Put ((xs.set (k * 2) (.int .i64 (l.getD k (0, 0)).1)).set (k * 2 + 1) (.int .i64 (l.getD k (0, 0)).2)) l (k + 1) := by
  intro i hi
  rcases Nat.lt_or_ge i k with h1 | h1
  · obtain ⟨e1, e2⟩ := h i h1
    rw [List.getElem?_set_ne (by omega), List.getElem?_set_ne (by omega), List.getElem?_set_ne (by omega), List.getElem?_set_ne (by omega)]
    exact ⟨e1, e2⟩
  · obtain rfl : i = k := by omega
    refine ⟨?_, ?_⟩
    · rw [List.getElem?_set_ne (by omega), List.getElem?_set_self (by omega)]
    · rw [List.getElem?_set_self (by rw [List.length_set]; omega)]
set_option maxHeartbeats 2000000 in
theorem canBe_any (ao : Option Addr) (n cap : Nat) (l : List Sp) (z : Int) (w : World) (hS : FS w ao n cap l) (hnn : n ≤ 1048576) :
    Calls Try.prog 30 #[.slice ao n cap, .int .i64 z] w fun e w' => e = .returned (.bool (apB z 0 l)) ∧ Below w.heap.size w w' := by
  obtain ⟨i0, hi, hz0, hz1, hz2⟩ := info_parts infoSpan
  have hn := hS.nc
  have hm := hS.cm
  have HS : Hid (FS w ao n cap l) := hS
  clear hS
  go_enter Try.func30, Try.ntmps30
  go_wp2_with (at_make; refine wpList_make_full w rfl _ _ 47 rfl w.heap.size 54 i0 (.agg #[.int .i64 0, .int .i64 0]) 2 Try.underlying47 hi hz0 hz1 .i64 .i64 n n n rfl rfl rfl rfl (by rw [hz2]; omega) (by unfold maxLen; omega) (Nat.le_refl _) ?_)
  intro w1 hown hgr
  have HB1 : Hid (Below w.heap.size w w1) := Below.grown (Below.refl _ _) hgr (Nat.le_refl _) (fun k e => by cases e)
  have HO1 : Hid (∃ xs, w1.ownsRow w.heap.size 54 2 (.slice (some ⟨w.heap.size, 0, none⟩) n n) n xs ∧ Put xs l 0) := ⟨_, hown, fun i hi => by omega⟩
  clear hown hgr
  go_wp2
  go_loopw [13] (fun i wr => ∃ k : Nat, k ≤ n ∧ i = .int .i64 k ∧ Hid (∃ xs, wr.ownsRow w.heap.size 54 2 (.slice (some ⟨w.heap.size, 0, none⟩) n n) n xs ∧ Put xs l k) ∧ Hid (Below w.heap.size w wr)) (fun i _ => n - (intOf i).toNat)
  case atStart => exact ⟨0, Nat.zero_le _, rfl, HO1, HB1⟩
  case round =>
    clear HO1 HB1
    obtain ⟨k, hk, rfl, HO, HBE⟩ := hrel
    have hsz := HBE.out.size
    by_cases hlt : k < n
    · obtain ⟨b, off, rfl, hc⟩ := (HS.out.below HBE.out).at_ (by omega)
      obtain ⟨g, c0, c1, c2⟩ := hc k hlt
      have hg := World.block_lt_of_cell? wr _ c1
      simp only at hg
      obtain ⟨xs, hro, hpu⟩ := HO.out
      have hxl : xs.length = n * 2 := hro.1
      have hpn := hpu.next hxl hlt
      clear hc HO
      generalize l.getD k (0, 0) = p at *
      obtain ⟨x, y⟩ := p
      simp only at c1 c2 hpn
      have d1 : ∀ o, (wr.alloc o).cell? ⟨g, 0, none⟩ = some (.int .i64 x) := fun o => (World.cell?_of_block (Below.heap_alloc wr o g hg)).trans c1
      have d2 : ∀ o, (wr.alloc o).cell? ⟨g, 1, none⟩ = some (.int .i64 y) := fun o => (World.cell?_of_block (Below.heap_alloc wr o g hg)).trans c2
      have hgn : ¬ g = wr.heap.size := by omega
      have GL := fun a c W => groupsLie_none a c z W
      have HR1 : Hid (wr.ownsRow w.heap.size 54 2 (.slice (some ⟨w.heap.size, 0, none⟩) n n) n xs) := hro
      have HPN : Hid (Put ((xs.set (k * 2) (.int .i64 x)).set (k * 2 + 1) (.int .i64 y)) l (k + 1)) := hpn
      have HXL : Hid (xs.length = n * 2) := hxl
      clear hro hpu hpn hxl
      go_wp2_with fail
      refine (GL _ _ _).mono ?_
      rintro e w2 ⟨rfl, hb2⟩
      have e0 : w2.cell? ⟨wr.heap.size, 0, none⟩ = some (.slice (some ⟨g, 0, none⟩) 1 1) := (hb2.cell (by simp)).trans (by simp)
      have e1 : w2.cell? ⟨g, 0, none⟩ = some (.int .i64 x) := (hb2.cell (by simp; omega)).trans (d1 _)
      have e2 : w2.cell? ⟨g, 1, none⟩ = some (.int .i64 y) := (hb2.cell (by simp; omega)).trans (d2 _)
      have r2 : w2.ownsRow w.heap.size 54 2 (.slice (some ⟨w.heap.size, 0, none⟩) n n) n xs := own_below (HR1.out.alloc _) hb2
      have HBE2 : Hid (Below w.heap.size w w2) := (HBE.out.alloc hsz _).trans (hb2.mono (by simp; omega))
      obtain ⟨s1, g1⟩ := r2.stored (k * 2) (.int .i64 x)
      obtain ⟨s2, g2⟩ := s1.stored (k * 2 + 1) (.int .i64 y)
      have t0 : w2.cell? ⟨w.heap.size, k * 2, none⟩ = some (xs[k * 2]'(by rw [HXL.out]; omega)) := (r2.cellAt _ (by omega)).trans (List.getElem?_eq_getElem _)
      have t1 : w2.cell? ⟨w.heap.size, k * 2 + 1, none⟩ = some (xs[k * 2 + 1]'(by rw [HXL.out]; omega)) := (r2.cellAt _ (by omega)).trans (List.getElem?_eq_getElem _)
      have z0 : w2.frozen? ⟨w.heap.size, k * 2, none⟩ = false := r2.frozenAt _
      have z1 : w2.frozen? ⟨w.heap.size, k * 2 + 1, none⟩ = false := r2.frozenAt _
      have R1 : Hid (∃ xs, ((w2.setCell ⟨w.heap.size, k * 2, none⟩ (.int .i64 x)).setCell ⟨w.heap.size, k * 2 + 1, none⟩ (.int .i64 y)).ownsRow w.heap.size 54 2 (.slice (some ⟨w.heap.size, 0, none⟩) n n) n xs ∧ Put xs l (k + 1)) := ⟨_, s2, HPN.out⟩
      have R2 : Hid (Below w.heap.size w ((w2.setCell ⟨w.heap.size, k * 2, none⟩ (.int .i64 x)).setCell ⟨w.heap.size, k * 2 + 1, none⟩ (.int .i64 y))) := (HBE2.out.setCell (by simp) _).setCell (by simp) _
      generalize (xs[k * 2]'(by rw [HXL.out]; omega)) = o0 at *
      generalize (xs[k * 2 + 1]'(by rw [HXL.out]; omega)) = o1 at *
      clear GL d1 d2 c0 c1 c2 hb2 r2 s1 g1 s2 g2 HR1 HPN HBE
      go_wp2
      go_roundw
      case rel => exact ⟨k + 1, by omega, by go_num, R1, R2⟩
      case measure => simp [intOf]; omega
    · obtain rfl : k = n := by omega
      obtain ⟨xs, hro, hpu⟩ := HO.out
      have hSS : SS wr (some ⟨w.heap.size, 0, none⟩) k k l := ⟨HS.out.len, Nat.le_refl _, by omega, .inr ⟨_, 0, rfl, fun i hi => by
        obtain ⟨h1, h2⟩ := hpu i hi
        rw [Nat.zero_add]
        exact ⟨(hro.cellAt _ (by omega)).trans h1, (hro.cellAt _ (by omega)).trans h2⟩⟩⟩
      have A := apart_any _ _ _ l z wr hSS
      clear hro hpu hSS HO
      go_wp2_with fail
      refine A.mono ?_
      rintro e w2 ⟨rfl, hb2⟩
      have R1 : Hid (Below w.heap.size w w2) := HBE.out.trans (hb2.mono hsz)
      clear A hb2
      go_wp2
      go_ret
      exact ⟨rfl, R1.out⟩
end Go.Proofs.Ytfnndnlhdfjggaa.edt
