/- audit.edgesOf: a row of bools that tells of each place of bytes whether it is an edge of an item. -/
import Derived.Test.YtpdkdfgcnhcmkaaAudEdgP
import Derived.Deep.RegionHeld3
set_option linter.unusedVariables false
set_option linter.unusedSimpArgs false
namespace Go.Proofs.Ytpdkdfgcnhcmkaa.aud
open Go.RowKit
open Go.Proofs.Ytpdkdfgcnhcmkaa.edt
open Go.Proofs.Ytpdkdfgcnhcmkaa.utf (items IsB)

theorem infoBool : (Try.prog.info? 4).map (fun i => (i.zero, i.size, i.bytes)) = some (some (.bool false), 1, 1) := by kernel_rfl
theorem isB_of {w : World} {ao : Option Addr} {n cap : Nat} {l : List Int} (h : BS w ao n cap l) : IsB w ao n (fun i => l.getD i 0) := h.cell
/-- Such a row, in memory. -/
def RowIs (w : World) (B : Nat) (v : Value) (n : Nat) (h : Nat → Bool) : Prop := w.ownsRow B 4 1 v n (cellsB n h)
theorem below_drew {B : Nat} {a w : World} (h : Below B a w) : Below B a w.drew := ⟨h.os, h.tape, h.output, h.size, h.block⟩
set_option maxHeartbeats 2000000 in
theorem edgesOf_any (ao : Option Addr) (n cap : Nat) (l : List Int) (w : World) (hB : BS w ao n cap l) (hn : n ≤ 1048576) :
    Calls Try.prog 18 #[.slice ao n cap] w fun e w' => ∃ g, e = .returned (.slice (some ⟨g, 0, none⟩) (n + 1) (n + 1)) ∧ RowIs w' w.heap.size (.slice (some ⟨g, 0, none⟩) (n + 1) (n + 1)) (n + 1) (fun p => egB (items (fun i => l.getD i 0) n 0) n p) ∧ Below w.heap.size w w' := by
  obtain ⟨i0, hi, hz0, hz1, hz2⟩ := info_parts infoBool
  have hnc := hB.nc
  have hcm := hB.cm
  have hrg := hB.rg
  have HD : Hid (∀ W, Below w.heap.size w W → Calls Try.prog 24 #[.slice ao n cap] W fun e w' => ∃ v, e = .returned v ∧ w'.ownsRow W.heap.size 32 3 v (items (fun i => l.getD i 0) n 0).length (utf.flat (items (fun i => l.getD i 0) n 0)) ∧ Below W.heap.size W w') := fun W hb => utf.decode_any ao n cap _ W (isB_of (hB.below hb)) (by omega) hrg
  have HEN : Hid (∀ p, rowB (items (fun i => l.getD i 0) n 0) n (items (fun i => l.getD i 0) n 0).length p = egB (items (fun i => l.getD i 0) n 0) n p) := fun p => rowB_all _ n p
  have HIT : Hid (∀ k, k < (items (fun i => l.getD i 0) n 0).length → ((items (fun i => l.getD i 0) n 0).getD k (0, 0, 0)).2.1 < n ∧ ((items (fun i => l.getD i 0) n 0).getD k (0, 0, 0)).2.2 ≤ n) := fun k hk => by
    rw [List.getD_eq_getElem?_getD, List.getElem?_eq_getElem hk]
    have := it_ends _ n _ 0 rfl _ (List.getElem_mem hk)
    exact ⟨this.1, this.2.1⟩
  have hcnt := it_count (fun i => l.getD i 0) n _ 0 rfl
  clear hB hrg
  generalize items (fun i => l.getD i 0) n 0 = L at *
  go_enter Try.func18, Try.ntmps18
  go_wp2_with (at_make; refine wpList_make_full w rfl _ _ 42 rfl w.heap.size 4 i0 (.bool false) 1 Try.underlying42 hi hz0 hz1 .i64 .i64 (n + 1) (n + 1) (n + 1) rfl rfl (by omega) (by omega) (by rw [hz2]; omega) (by unfold maxLen; omega) (Nat.le_refl _) ?_)
  intro w1 hown hgr
  have HB1 : Hid (Below w.heap.size w w1) := Below.grown (Below.refl _ _) hgr (Nat.le_refl _) (fun k e => by cases e)
  have r1 : RowIs w1 w.heap.size (.slice (some ⟨w.heap.size, 0, none⟩) (n + 1) (n + 1)) (n + 1) (fun _ => false) := by
    unfold RowIs
    rw [← cellsB_false, ← toList_madeCells_one]
    exact hown
  clear hown hgr
  unfold RowIs at r1
  have t0 : w1.cell? ⟨w.heap.size, n, none⟩ = some (.bool false) := (r1.cellAt _ (by omega)).trans (cellsB_get _ _ _ (by omega))
  have z0 : w1.frozen? ⟨w.heap.size, n, none⟩ = false := r1.frozenAt _
  obtain ⟨s2, g2⟩ := r1.stored n (.bool true)
  have R2 : Hid (RowIs (w1.setCell ⟨w.heap.size, n, none⟩ (.bool true)) w.heap.size (.slice (some ⟨w.heap.size, 0, none⟩) (n + 1) (n + 1)) (n + 1) (rowB L n 0)) := by
    show RowIs _ _ _ _ _
    unfold RowIs
    rw [cellsB_set _ _ _ (by omega)] at s2
    rw [cellsB_congr _ (rowB L n 0) (fun p => false || decide (p = n)) (fun p _ => by simp [rowB])]
    exact s2
  have B2 : Hid (Below w.heap.size w (w1.setCell ⟨w.heap.size, n, none⟩ (.bool true))) := HB1.out.setCell (Nat.le_refl _) _
  clear s2 g2 r1 HB1
  go_wp2_with fail
  generalize w1.setCell ⟨w.heap.size, n, none⟩ (.bool true) = w2 at *
  clear t0 z0
  refine (HD.out _ B2.out).mono ?_
  rintro e w3 ⟨v, rfl, hown, hb3⟩
  have R3 : Hid (RowIs w3 w.heap.size (.slice (some ⟨w.heap.size, 0, none⟩) (n + 1) (n + 1)) (n + 1) (rowB L n 0)) := own_below R2.out hb3
  have B3 : Hid (Below w.heap.size w w3) := B2.out.trans (hb3.mono B2.out.size)
  have hs2 : w.heap.size < w2.heap.size := (R2.out.lt _ rfl).2
  clear HD hb3 R2 B2
  obtain ⟨ai, ci, rfl⟩ := own_slice hown
  have HO : Hid (w3.ownsRow w2.heap.size 32 3 (.slice ai L.length ci) L.length (utf.flat L)) := hown
  clear hown
  obtain ⟨N, hN⟩ : ∃ N, L.length = N := ⟨_, rfl⟩
  rw [hN] at HO hcnt ⊢
  have HN : Hid (L.length = N) := hN
  clear hN
  go_wp2
  go_loopw [17] (fun i wr => ∃ k : Nat, k ≤ N ∧ i = .int .i64 k ∧ Hid (RowIs wr w.heap.size (.slice (some ⟨w.heap.size, 0, none⟩) (n + 1) (n + 1)) (n + 1) (rowB L n k)) ∧ Hid (wr.ownsRow w2.heap.size 32 3 (.slice ai N ci) N (utf.flat L)) ∧ Hid (Below w.heap.size w wr)) (fun i _ => N - (intOf i).toNat)
  case atStart => exact ⟨0, Nat.zero_le _, rfl, R3, HO, B3⟩
  case round =>
    clear R3 HO B3
    obtain ⟨k, hk, rfl, RK, OK, BK⟩ := hrel
    by_cases hlt : k < N
    · obtain ⟨e0, e1, e2⟩ := flat_get L k (by rw [HN.out]; exact hlt)
      obtain ⟨p1, p2⟩ := HIT.out k (by rw [HN.out]; exact hlt)
      have RN : Hid (∀ p, rowB L n (k + 1) p = ((rowB L n k p || decide (p = (L.getD k (0, 0, 0)).2.1)) || decide (p = (L.getD k (0, 0, 0)).2.2))) := fun p => rowB_next L n k p (by rw [HN.out]; exact hlt)
      generalize L.getD k (0, 0, 0) = x at *
      obtain ⟨x0, x1, x2⟩ := x
      simp only at e0 e1 e2 p1 p2 RN
      obtain ⟨gi, hai⟩ : ∃ gi, ai = some ⟨gi, 0, none⟩ := by
        rcases OK.out.2 with ⟨h, h0⟩ | ⟨g, c, cur, h, _⟩
        · omega
        · cases h; exact ⟨g, rfl⟩
      subst hai
      have c0 : wr.cell? ⟨gi, k * 3, none⟩ = some (.int .i64 x0) := (OK.out.cellAt _ (by omega)).trans e0
      have c1 : wr.cell? ⟨gi, k * 3 + 1, none⟩ = some (.int .i64 x1) := (OK.out.cellAt _ (by omega)).trans e1
      have c2 : wr.cell? ⟨gi, k * 3 + 2, none⟩ = some (.int .i64 x2) := (OK.out.cellAt _ (by omega)).trans e2
      have hgi : ¬ gi = w.heap.size := by have h9 : w2.heap.size ≤ gi := (OK.out.lt _ rfl).1; omega
      have hwr : w.heap.size < wr.heap.size := (RK.out.lt _ rfl).2
      have ra := RK.out.alloc (.cells #[.int .i64 x0, .int .i64 x1, .int .i64 x2] 32)
      have OA : Hid ((wr.alloc (.cells #[.int .i64 x0, .int .i64 x1, .int .i64 x2] 32)).ownsRow w2.heap.size 32 3 (.slice (some ⟨gi, 0, none⟩) N ci) N (utf.flat L)) := OK.out.alloc (.cells #[.int .i64 x0, .int .i64 x1, .int .i64 x2] 32)
      have BA : Hid (Below w.heap.size w (wr.alloc (.cells #[.int .i64 x0, .int .i64 x1, .int .i64 x2] 32))) := BK.out.alloc BK.out.size (.cells #[.int .i64 x0, .int .i64 x1, .int .i64 x2] 32)
      have hx1 : (x1 : Int) < (n : Int) + 1 := by omega
      have hx2 : (x2 : Int) < (n : Int) + 1 := by omega
      have ba : Bk (wr.alloc (.cells #[.int .i64 x0, .int .i64 x1, .int .i64 x2] 32)) wr.heap.size #[.int .i64 x0, .int .i64 x1, .int .i64 x2] 32 := Bk.new _ _ _
      obtain ⟨gb, hgb⟩ : ∃ gb, wr.heap.size = gb := ⟨_, rfl⟩
      have hgbn : ¬ gb = w.heap.size := by omega
      have hgbn' : ¬ w.heap.size = gb := by omega
      unfold RowIs at ra
      obtain ⟨s1, q1⟩ := ra.stored x1 (.bool true)
      obtain ⟨s2, q2⟩ := s1.stored x2 (.bool true)
      have t1 : (wr.alloc (.cells #[.int .i64 x0, .int .i64 x1, .int .i64 x2] 32)).cell? ⟨w.heap.size, x1, none⟩ = some (.bool (rowB L n k x1)) := (ra.cellAt _ (by omega)).trans (cellsB_get _ _ _ (by omega))
      have z1 : (wr.alloc (.cells #[.int .i64 x0, .int .i64 x1, .int .i64 x2] 32)).frozen? ⟨w.heap.size, x1, none⟩ = false := ra.frozenAt _
      rw [cellsB_set _ _ _ (by omega)] at s1 s2
      rw [cellsB_set _ _ _ (by omega)] at s2
      have t2 : ((wr.alloc (.cells #[.int .i64 x0, .int .i64 x1, .int .i64 x2] 32)).setCell ⟨w.heap.size, x1, none⟩ (.bool true)).cell? ⟨w.heap.size, x2, none⟩ = some (.bool (rowB L n k x2 || decide (x2 = x1))) := (s1.cellAt _ (by omega)).trans (cellsB_get _ _ _ (by omega))
      have z2 : ((wr.alloc (.cells #[.int .i64 x0, .int .i64 x1, .int .i64 x2] 32)).setCell ⟨w.heap.size, x1, none⟩ (.bool true)).frozen? ⟨w.heap.size, x2, none⟩ = false := s1.frozenAt _
      generalize rowB L n k x1 = o1 at t1
      generalize (rowB L n k x2 || decide (x2 = x1)) = o2 at t2
      have RF : Hid (RowIs (((wr.alloc (.cells #[.int .i64 x0, .int .i64 x1, .int .i64 x2] 32)).setCell ⟨w.heap.size, x1, none⟩ (.bool true)).setCell ⟨w.heap.size, x2, none⟩ (.bool true)).drew w.heap.size (.slice (some ⟨w.heap.size, 0, none⟩) (n + 1) (n + 1)) (n + 1) (rowB L n (k + 1))) := by
        show RowIs _ _ _ _ _
        unfold RowIs
        rw [cellsB_congr _ (rowB L n (k + 1)) _ (fun p _ => RN.out p)]
        exact own_below s2 (below_drew (Below.refl _ _))
      have OF : Hid ((((wr.alloc (.cells #[.int .i64 x0, .int .i64 x1, .int .i64 x2] 32)).setCell ⟨w.heap.size, x1, none⟩ (.bool true)).setCell ⟨w.heap.size, x2, none⟩ (.bool true)).drew.ownsRow w2.heap.size 32 3 (.slice (some ⟨gi, 0, none⟩) N ci) N (utf.flat L)) := own_below (((OA.out.kept q1 (.inr (by simp [Value.ownBlock]; omega)))).kept q2 (.inr (by simp [Value.ownBlock]; omega))) (below_drew (Below.refl _ _))
      have BF : Hid (Below w.heap.size w (((wr.alloc (.cells #[.int .i64 x0, .int .i64 x1, .int .i64 x2] 32)).setCell ⟨w.heap.size, x1, none⟩ (.bool true)).setCell ⟨w.heap.size, x2, none⟩ (.bool true)).drew) := below_drew ((BA.out.setCell (Nat.le_refl _) _).setCell (Nat.le_refl _) _)
      clear e0 e1 e2 RK OK BK s1 s2 q1 q2 ra OA BA
      go_wp2
      generalize wr.alloc (.cells #[.int .i64 x0, .int .i64 x1, .int .i64 x2] 32) = W at *
      rw [hgb] at ba
      have b1 := ba.cell 1 rfl
      have b2 := ba.cell 2 rfl
      go_region_held3 (fun w' => w'.cell? ⟨gb, 1, none⟩ = some (.int .i64 x1) ∧ w'.cell? ⟨gb, 2, none⟩ = some (.int .i64 x2)) (go_keep) (fail)
      go_wp2
      go_roundw
      case rel => exact ⟨k + 1, by omega, by go_num, RF, OF, BF⟩
      case measure => simp [intOf]; omega
    · obtain rfl : k = N := by omega
      have RE : Hid (RowIs wr w.heap.size (.slice (some ⟨w.heap.size, 0, none⟩) (n + 1) (n + 1)) (n + 1) (fun p => egB L n p)) := by
        have h1 := RK.out
        show RowIs _ _ _ _ _
        unfold RowIs at h1 ⊢
        rw [cellsB_congr _ (fun p => egB L n p) (rowB L n k) (fun p _ => by rw [← HEN.out p, HN.out])]
        exact h1
      clear RK OK
      go_wp2
      go_ret
      exact ⟨_, rfl, RE.out, BK.out⟩
end Go.Proofs.Ytpdkdfgcnhcmkaa.aud
