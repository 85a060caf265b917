/- Rows of matches in memory; whether they stand in order (audit.Ordered, and the document's). -/
import Derived.Test.YtpdkdfgcnhcmkaaEdtFo
import Derived.Test.YtpdkdfgcnhcmkaaEdtPure
set_option linter.unusedVariables false
set_option linter.unusedSimpArgs false
namespace Go.Proofs.Ytpdkdfgcnhcmkaa.aud
open Go.RowKit
open Go.Proofs.Ytpdkdfgcnhcmkaa.edt

/-- From the address on lie n matches, each with its spans. -/
structure MS (w : World) (ao : Option Addr) (n cap : Nat) (l : List (List Sp)) : Prop where
  len : l.length = n
  nc : n ≤ cap
  cm : cap ≤ 9223372036854775807
  cell : n = 0 ∨ ∃ b off, ao = some ⟨b, off, none⟩ ∧ ∀ i, i < n → ∃ a m c, w.cell? ⟨b, off + i, none⟩ = some (.slice a m c) ∧ SS w a m c (l.getD i [])
theorem MS.below {w w' : World} {ao : Option Addr} {n cap : Nat} {l : List (List Sp)} (h : MS w ao n cap l) (hb : Below w.heap.size w w') : MS w' ao n cap l := by
  refine ⟨h.len, h.nc, h.cm, ?_⟩
  rcases h.cell with k | ⟨b, off, rfl, k⟩
  · exact .inl k
  · refine .inr ⟨b, off, rfl, fun i hi => ?_⟩
    obtain ⟨a, m, c, h1, h2⟩ := k i hi
    exact ⟨a, m, c, (hb.cell (World.block_lt_of_cell? w _ h1)).trans h1, h2.below hb⟩
theorem MS.at_ {w : World} {ao : Option Addr} {n cap : Nat} {l : List (List Sp)} (h : MS w ao n cap l) (h0 : 0 < n) : ∃ b off, ao = some ⟨b, off, none⟩ ∧ ∀ i, i < n → ∃ a m c, w.cell? ⟨b, off + i, none⟩ = some (.slice a m c) ∧ SS w a m c (l.getD i []) := by
  rcases h.cell with h | h
  · omega
  · exact h
theorem MS.nilv (w : World) : MS w none 0 0 [] := ⟨rfl, Nat.le_refl _, by omega, .inl rfl⟩
/-- Whether a span may stand behind another one. -/
def og (p q : Sp) (z : Int) : Bool := !(decide (q.1 < p.2) || decide (q.2 < q.1) || decide (z < q.2) || (q.1 == p.1 && q.2 == p.2))
/-- Whether matches stand in order behind a span. -/
def ordB (z : Int) : Sp → List (List Sp) → Bool
  | _, [] => true
  | p, m :: r => if m.length = 0 then false else og p (m.getD 0 (0, 0)) z && ordB z (m.getD 0 (0, 0)) r
theorem ord_no (z : Int) (p : Sp) (l : List (List Sp)) (k : Nat) (h : k < l.length) (h0 : (l.getD k []).length = 0) : ordB z p (l.drop k) = false := by
  rw [drop_cons l k [] h, ordB, if_pos h0]
theorem ord_go (z : Int) (p : Sp) (l : List (List Sp)) (k : Nat) (h : k < l.length) (h0 : ¬ (l.getD k []).length = 0) : ordB z p (l.drop k) = (og p ((l.getD k []).getD 0 (0, 0)) z && ordB z ((l.getD k []).getD 0 (0, 0)) (l.drop (k + 1))) := by
  rw [drop_cons l k [] h, ordB, if_neg h0]
theorem og_iff (p q : Sp) (z : Int) : og p q z = true ↔ p.2 ≤ q.1 ∧ q.1 ≤ q.2 ∧ q.2 ≤ z ∧ ¬ (q.1 = p.1 ∧ q.2 = p.2) := by
  simp [og, and_assoc]
  intro _ _ _
  constructor
  · rintro (h | h) h1 h2 <;> contradiction
  · intro h; by_cases h1 : q.1 = p.1
    · exact .inr (h h1)
    · exact .inl h1

/-- A block of its own. -/
def Bk (w : World) (g : Nat) (cs : Array Value) (t : TypeId) : Prop := w.heap[g]? = some (.cells cs t (0, 0))
theorem Bk.new (w : World) (cs : Array Value) (t : TypeId) : Bk (w.alloc (.cells cs t)) w.heap.size cs t := by
  show (w.heap.push _)[w.heap.size]? = _; simp
theorem Bk.lt {w : World} {g : Nat} {cs : Array Value} {t : TypeId} (h : Bk w g cs t) : g < w.heap.size := (Array.getElem?_eq_some_iff.1 h).1
theorem Bk.on {w w' : World} {g : Nat} {cs : Array Value} {t : TypeId} (h : Bk w g cs t) (hb : Below w.heap.size w w') : Bk w' g cs t := (hb.block g h.lt).trans h
theorem Bk.past {w : World} {g : Nat} {cs : Array Value} {t : TypeId} (h : Bk w g cs t) (o : Obj) : Bk (w.alloc o) g cs t := h.on ((Below.refl _ w).alloc (Nat.le_refl _) o)
theorem Bk.cell {w : World} {g : Nat} {cs : Array Value} {t : TypeId} (h : Bk w g cs t) (i : Nat) {u : Value} (hi : cs[i]? = some u) : w.cell? ⟨g, i, none⟩ = some u := by
  unfold Bk at h
  simp [World.cell?, h, hi]
theorem Bk.frozen {w : World} {g : Nat} {cs : Array Value} {t : TypeId} (h : Bk w g cs t) (i : Nat) : w.frozen? ⟨g, i, none⟩ = false := by
  unfold Bk at h
  simp [World.frozen?, h]
theorem Bk.set2 {w : World} {g : Nat} {a b : Value} {t : TypeId} (h : Bk w g #[a, b] t) (x y : Value) : Bk ((w.setCell ⟨g, 0, none⟩ x).setCell ⟨g, 1, none⟩ y) g #[x, y] t := by
  unfold Bk at *
  simp [World.setCell, Array.getElem?_modify, h]

set_option maxHeartbeats 1000000 in
theorem ordered_any (ao : Option Addr) (n cap : Nat) (l : List (List Sp)) (z : Int) (w : World) (hS : MS w ao n cap l) :
    Calls Try.prog 8 #[.slice ao n cap, .int .i64 z] w fun e w' => e = .returned (.bool (ordB z (-1, 0) l)) ∧ Below w.heap.size w w' := by
  have hn := hS.nc
  have hm := hS.cm
  have HS : Hid (MS w ao n cap l) := hS
  clear hS
  go_enter Try.func8, Try.ntmps8
  go_wp2
  go_loopw [12] (fun i wr => ∃ (k : Nat) (p : Sp), k ≤ n ∧ i = .int .i64 k ∧ Hid (Below w.heap.size w wr) ∧ Hid (Bk wr w.heap.size #[.int .i64 p.1, .int .i64 p.2] 34) ∧ Hid (ordB z p (l.drop k) = ordB z (-1, 0) l)) (fun i _ => n - (intOf i).toNat)
  case atStart => exact ⟨0, (-1, 0), Nat.zero_le _, rfl, (Below.refl _ _).alloc (Nat.le_refl _) _, Bk.new w _ _, rfl⟩
  case round =>
    obtain ⟨k, ⟨p1, p2⟩, hk, rfl, HB, HG, HK⟩ := hrel
    simp only at HG
    by_cases hlt : k < n
    · obtain ⟨b, off, rfl, hc⟩ := (HS.out.below HB.out).at_ (by omega)
      obtain ⟨a, m, c, c0, hs⟩ := hc k hlt
      clear hc
      have hll : k < l.length := by rw [HS.out.len]; exact hlt
      by_cases hm0 : m = 0
      · subst hm0
        have e1 : Hid (ordB z (-1, 0) l = false) := by have := HK.out; rw [ord_no z _ l k hll hs.len] at this; exact this.symm
        clear hs HK
        go_wp2
        go_ret
        exact ⟨ret_bool e1.out.symm, HB.out.alloc HB.out.size _⟩
      · have e1 : Hid ((og (p1, p2) ((l.getD k []).getD 0 (0, 0)) z && ordB z ((l.getD k []).getD 0 (0, 0)) (l.drop (k + 1))) = ordB z (-1, 0) l) := by
          have := HK.out; rw [ord_go z _ l k hll (by rw [hs.len]; exact hm0)] at this; exact this
        obtain ⟨b2, off2, rfl, hc2⟩ := hs.at_ (by omega)
        obtain ⟨q1, q2⟩ := hc2 0 (by omega)
        clear hs HK hc2
        generalize (l.getD k []).getD 0 (0, 0) = q at *
        obtain ⟨x, y⟩ := q
        simp only at q1 q2
        simp only [Nat.zero_mul, Nat.add_zero] at q1 q2
        have hg2 := World.block_lt_of_cell? wr _ q1
        simp only at hg2
        have d1 : ∀ o, (wr.alloc o).cell? ⟨b2, off2, none⟩ = some (.int .i64 x) := fun o => (World.cell?_of_block (Below.heap_alloc wr o b2 hg2)).trans q1
        have d2 : ∀ o, (wr.alloc o).cell? ⟨b2, off2 + 1, none⟩ = some (.int .i64 y) := fun o => (World.cell?_of_block (Below.heap_alloc wr o b2 hg2)).trans q2
        have g0 : ∀ o o', ((wr.alloc o).alloc o').cell? ⟨w.heap.size, 0, none⟩ = some (.int .i64 p1) := fun o o' => ((HG.out.past o).past o').cell 0 rfl
        have g1 : ∀ o o', ((wr.alloc o).alloc o').cell? ⟨w.heap.size, 1, none⟩ = some (.int .i64 p2) := fun o o' => ((HG.out.past o).past o').cell 1 rfl
        have f0 : ∀ o o', ((wr.alloc o).alloc o').frozen? ⟨w.heap.size, 0, none⟩ = false := fun o o' => ((HG.out.past o).past o').frozen 0
        have f1 : ∀ o o', ((wr.alloc o).alloc o').frozen? ⟨w.heap.size, 1, none⟩ = false := fun o o' => ((HG.out.past o).past o').frozen 1
        have R2 : Hid (∀ o o', Below w.heap.size w ((wr.alloc o).alloc o')) := fun o o' => (HB.out.alloc HB.out.size _).alloc (by simp; have := HB.out.size; omega) _
        have R3 : Hid (∀ o o' u v, Below w.heap.size w ((((wr.alloc o).alloc o').setCell ⟨w.heap.size, 0, none⟩ u).setCell ⟨w.heap.size, 1, none⟩ v)) := fun o o' u v => ((R2.out o o').setCell (Nat.le_refl _) _).setCell (Nat.le_refl _) _
        have G3 : Hid (∀ o o' (u v : Value), Bk ((((wr.alloc o).alloc o').setCell ⟨w.heap.size, 0, none⟩ u).setCell ⟨w.heap.size, 1, none⟩ v) w.heap.size #[u, v] 34) := fun o o' u v => ((HG.out.past o).past o').set2 u v
        go_wp2
        all_goals first
          | (go_ret
             refine ⟨ret_bool ?_, R2.out _ _⟩
             rw [← e1.out, show og (p1, p2) (x, y) z = false from Bool.eq_false_iff.2 (fun h => by have := (og_iff _ _ _).1 h; simp only at this; omega), Bool.false_and])
          | (exfalso; omega)
          | (exfalso; have hne : ((p2 ≤ p1 ∧ p1 ≤ p2) ∧ p2 ≤ z) ∧ (p1 == p2) = false := by assumption
             have h2 : p1 ≠ p2 := by simpa using hne.2
             omega)
          | (go_roundw
             case rel => exact ⟨k + 1, (x, y), by omega, by go_num, R3.out _ _ _ _, G3.out _ _ _ _, by have h1 := e1.out; rw [show og (p1, p2) (x, y) z = true from (og_iff _ _ _).2 (by simp only; omega), Bool.true_and] at h1; exact h1⟩
             case measure => simp [intOf]; omega)
          | (have hx : x = p1 := by omega
             go_roundw
             case rel => exact ⟨k + 1, (p1, y), by omega, by go_num, R3.out _ _ _ _, G3.out _ _ _ _, by have h1 := e1.out; rw [show og (p1, p2) (x, y) z = true from (og_iff _ _ _).2 (by simp only; omega), Bool.true_and, hx] at h1; exact h1⟩
             case measure => simp [intOf]; omega)
    · obtain rfl : k = n := by omega
      have e1 : ordB z (-1, 0) l = true := by rw [← HK.out, List.drop_eq_nil_of_le (by rw [HS.out.len]; exact Nat.le_refl _)]; rfl
      go_wp2
      go_ret
      exact ⟨ret_bool e1.symm, HB.out⟩
set_option maxHeartbeats 1000000 in
theorem rordered_any (ao : Option Addr) (n cap : Nat) (l : List (List Sp)) (z : Int) (w : World) (hS : MS w ao n cap l) :
    Calls Try.prog 9 #[.slice ao n cap, .int .i64 z] w fun e w' => e = .returned (.bool (ordB z (-1, 0) l)) ∧ Below w.heap.size w w' := by
  have hn := hS.nc
  have hm := hS.cm
  have HS : Hid (MS w ao n cap l) := hS
  clear hS
  go_enter Try.func9, Try.ntmps9
  go_wp2
  go_loopw [12] (fun i wr => ∃ (k : Nat) (p : Sp), k ≤ n ∧ i = .int .i64 k ∧ Hid (Below w.heap.size w wr) ∧ Hid (Bk wr w.heap.size #[.int .i64 p.1, .int .i64 p.2] 34) ∧ Hid (ordB z p (l.drop k) = ordB z (-1, 0) l)) (fun i _ => n - (intOf i).toNat)
  case atStart => exact ⟨0, (-1, 0), Nat.zero_le _, rfl, (Below.refl _ _).alloc (Nat.le_refl _) _, Bk.new w _ _, rfl⟩
  case round =>
    obtain ⟨k, ⟨p1, p2⟩, hk, rfl, HB, HG, HK⟩ := hrel
    simp only at HG
    by_cases hlt : k < n
    · obtain ⟨b, off, rfl, hc⟩ := (HS.out.below HB.out).at_ (by omega)
      obtain ⟨a, m, c, c0, hs⟩ := hc k hlt
      clear hc
      have hll : k < l.length := by rw [HS.out.len]; exact hlt
      by_cases hm0 : m = 0
      · subst hm0
        have e1 : Hid (ordB z (-1, 0) l = false) := by have := HK.out; rw [ord_no z _ l k hll hs.len] at this; exact this.symm
        clear hs HK
        go_wp2
        go_ret
        exact ⟨ret_bool e1.out.symm, HB.out.alloc HB.out.size _⟩
      · have e1 : Hid ((og (p1, p2) ((l.getD k []).getD 0 (0, 0)) z && ordB z ((l.getD k []).getD 0 (0, 0)) (l.drop (k + 1))) = ordB z (-1, 0) l) := by
          have := HK.out; rw [ord_go z _ l k hll (by rw [hs.len]; exact hm0)] at this; exact this
        obtain ⟨b2, off2, rfl, hc2⟩ := hs.at_ (by omega)
        obtain ⟨q1, q2⟩ := hc2 0 (by omega)
        clear hs HK hc2
        generalize (l.getD k []).getD 0 (0, 0) = q at *
        obtain ⟨x, y⟩ := q
        simp only at q1 q2
        simp only [Nat.zero_mul, Nat.add_zero] at q1 q2
        have hg2 := World.block_lt_of_cell? wr _ q1
        simp only at hg2
        have d1 : ∀ o, (wr.alloc o).cell? ⟨b2, off2, none⟩ = some (.int .i64 x) := fun o => (World.cell?_of_block (Below.heap_alloc wr o b2 hg2)).trans q1
        have d2 : ∀ o, (wr.alloc o).cell? ⟨b2, off2 + 1, none⟩ = some (.int .i64 y) := fun o => (World.cell?_of_block (Below.heap_alloc wr o b2 hg2)).trans q2
        have g0 : ∀ o o', ((wr.alloc o).alloc o').cell? ⟨w.heap.size, 0, none⟩ = some (.int .i64 p1) := fun o o' => ((HG.out.past o).past o').cell 0 rfl
        have g1 : ∀ o o', ((wr.alloc o).alloc o').cell? ⟨w.heap.size, 1, none⟩ = some (.int .i64 p2) := fun o o' => ((HG.out.past o).past o').cell 1 rfl
        have f0 : ∀ o o', ((wr.alloc o).alloc o').frozen? ⟨w.heap.size, 0, none⟩ = false := fun o o' => ((HG.out.past o).past o').frozen 0
        have f1 : ∀ o o', ((wr.alloc o).alloc o').frozen? ⟨w.heap.size, 1, none⟩ = false := fun o o' => ((HG.out.past o).past o').frozen 1
        have R2 : Hid (∀ o o', Below w.heap.size w ((wr.alloc o).alloc o')) := fun o o' => (HB.out.alloc HB.out.size _).alloc (by simp; have := HB.out.size; omega) _
        have R3 : Hid (∀ o o' u v, Below w.heap.size w ((((wr.alloc o).alloc o').setCell ⟨w.heap.size, 0, none⟩ u).setCell ⟨w.heap.size, 1, none⟩ v)) := fun o o' u v => ((R2.out o o').setCell (Nat.le_refl _) _).setCell (Nat.le_refl _) _
        have G3 : Hid (∀ o o' (u v : Value), Bk ((((wr.alloc o).alloc o').setCell ⟨w.heap.size, 0, none⟩ u).setCell ⟨w.heap.size, 1, none⟩ v) w.heap.size #[u, v] 34) := fun o o' u v => ((HG.out.past o).past o').set2 u v
        go_wp2
        all_goals first
          | (go_ret
             refine ⟨ret_bool ?_, R2.out _ _⟩
             rw [← e1.out, show og (p1, p2) (x, y) z = false from Bool.eq_false_iff.2 (fun h => by have := (og_iff _ _ _).1 h; simp only at this; omega), Bool.false_and])
          | (exfalso; omega)
          | (exfalso; have hne : ((p2 ≤ p1 ∧ p1 ≤ p2) ∧ p2 ≤ z) ∧ (p1 == p2) = false := by assumption
             have h2 : p1 ≠ p2 := by simpa using hne.2
             omega)
          | (go_roundw
             case rel => exact ⟨k + 1, (x, y), by omega, by go_num, R3.out _ _ _ _, G3.out _ _ _ _, by have h1 := e1.out; rw [show og (p1, p2) (x, y) z = true from (og_iff _ _ _).2 (by simp only; omega), Bool.true_and] at h1; exact h1⟩
             case measure => simp [intOf]; omega)
          | (have hx : x = p1 := by omega
             go_roundw
             case rel => exact ⟨k + 1, (p1, y), by omega, by go_num, R3.out _ _ _ _, G3.out _ _ _ _, by have h1 := e1.out; rw [show og (p1, p2) (x, y) z = true from (og_iff _ _ _).2 (by simp only; omega), Bool.true_and, hx] at h1; exact h1⟩
             case measure => simp [intOf]; omega)
    · obtain rfl : k = n := by omega
      have e1 : ordB z (-1, 0) l = true := by rw [← HK.out, List.drop_eq_nil_of_le (by rw [HS.out.len]; exact Nat.le_refl _)]; rfl
      go_wp2
      go_ret
      exact ⟨ret_bool e1.symm, HB.out⟩
end Go.Proofs.Ytpdkdfgcnhcmkaa.aud
