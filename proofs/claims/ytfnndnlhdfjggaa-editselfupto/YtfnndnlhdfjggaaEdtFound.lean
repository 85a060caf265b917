/- Rows of matches of one span each in memory; whether they may be (the document's may). -/
import Derived.Test.YtfnndnlhdfjggaaEdtSpan
set_option linter.unusedVariables false
set_option linter.unusedSimpArgs false
namespace Go.Proofs.Ytfnndnlhdfjggaa.edt
open Go.RowKit

/-- From the address on lie n matches, each of one span. -/
structure FS (w : World) (ao : Option Addr) (n cap : Nat) (l : List Sp) : Prop where
  len : l.length = n
  nc : n ≤ cap
  cm : cap ≤ 9223372036854775807
  cell : n = 0 ∨ ∃ b off, ao = some ⟨b, off, none⟩ ∧ ∀ i, i < n → ∃ g, w.cell? ⟨b, off + i, none⟩ = some (.slice (some ⟨g, 0, none⟩) 1 1) ∧ w.cell? ⟨g, 0, none⟩ = some (.int .i64 (l.getD i (0, 0)).1) ∧ w.cell? ⟨g, 1, none⟩ = some (.int .i64 (l.getD i (0, 0)).2)
theorem FS.below {w w' : World} {ao : Option Addr} {n cap : Nat} {l : List Sp} (h : FS w ao n cap l) (hb : Below w.heap.size w w') : FS w' ao n cap l := by
  refine ⟨h.len, h.nc, h.cm, ?_⟩
  rcases h.cell with k | ⟨b, off, rfl, k⟩
  · exact .inl k
  · refine .inr ⟨b, off, rfl, fun i hi => ?_⟩
    obtain ⟨g, h1, h2, h3⟩ := k i hi
    exact ⟨g, (hb.cell (World.block_lt_of_cell? w _ h1)).trans h1, (hb.cell (World.block_lt_of_cell? w _ h2)).trans h2, (hb.cell (World.block_lt_of_cell? w _ h3)).trans h3⟩
theorem FS.at_ {w : World} {ao : Option Addr} {n cap : Nat} {l : List Sp} (h : FS w ao n cap l) (h0 : 0 < n) : ∃ b off, ao = some ⟨b, off, none⟩ ∧ ∀ i, i < n → ∃ g, w.cell? ⟨b, off + i, none⟩ = some (.slice (some ⟨g, 0, none⟩) 1 1) ∧ w.cell? ⟨g, 0, none⟩ = some (.int .i64 (l.getD i (0, 0)).1) ∧ w.cell? ⟨g, 1, none⟩ = some (.int .i64 (l.getD i (0, 0)).2) := by
  rcases h.cell with h | h
  · omega
  · exact h
theorem ly_no (p : Sp) (a z : Int) (h0 : 0 ≤ a) (h : ly p 0 z = false) : ly p a z = false := by
  cases e : ly p a z with
  | false => rfl
  | true =>
    have := (ly_iff _ _ _).1 e
    rw [(ly_iff p 0 z).2 ⟨by omega, this.2.1, this.2.2⟩] at h
    cases h
theorem ly_low (p : Sp) (a z : Int) (h : p.1 < a) : ly p a z = false := by
  cases e : ly p a z with
  | false => rfl
  | true => have := (ly_iff _ _ _).1 e; omega
theorem ly_up (p : Sp) (a z : Int) (h : ly p 0 z = true) (ha : a ≤ p.1) : ly p a z = true := by
  have := (ly_iff _ _ _).1 h
  exact (ly_iff _ _ _).2 ⟨ha, this.2⟩

set_option maxHeartbeats 1000000 in
theorem may_any (ao : Option Addr) (n cap : Nat) (l : List Sp) (z : Int) (w : World) (hS : FS w ao n cap l) :
    Calls Try.prog 32 #[.slice ao n cap, .int .i64 z] w fun e w' => e = .returned (.bool (apB z 0 l)) ∧ Below w.heap.size w w' := by
  have hn := hS.nc
  have hm := hS.cm
  have HS : Hid (FS w ao n cap l) := hS
  clear hS
  go_enter Try.func32, Try.ntmps32
  go_wp2
  go_loopw [5, 12] (fun s i wr => ∃ (k : Nat) (e : Int), k ≤ n ∧ 0 ≤ e ∧ i = .int .i64 k ∧ s = .int .i64 e ∧ Below w.heap.size w wr ∧ Hid (apB z e (l.drop k) = apB z 0 l)) (fun _ i _ => n - (intOf i).toNat)
  case atStart => exact ⟨0, 0, Nat.zero_le _, by omega, rfl, rfl, Below.refl _ _, rfl⟩
  case round =>
    obtain ⟨k, e, hk, he, rfl, rfl, hb, HK⟩ := hrel
    have hsz := hb.size
    by_cases hlt : k < n
    · obtain ⟨b, off, rfl, hc⟩ := (HS.out.below hb).at_ (by omega)
      obtain ⟨g, c0, c1, c2⟩ := hc k hlt
      have hg := World.block_lt_of_cell? wr _ c1
      simp only at hg
      have HK2 : Hid ((ly (l.getD k (0, 0)) e z && apB z (l.getD k (0, 0)).2 (l.drop (k + 1))) = apB z 0 l) := by rw [← apB_drop z e l k (by rw [HS.out.len]; exact hlt)]; exact HK.out
      clear hc HK
      generalize l.getD k (0, 0) = p at *
      obtain ⟨x, y⟩ := p
      simp only at c1 c2
      have d1 : ∀ o, (wr.alloc o).cell? ⟨g, 0, none⟩ = some (.int .i64 x) := fun o => (World.cell?_of_block (Below.heap_alloc wr o g hg)).trans c1
      have d2 : ∀ o, (wr.alloc o).cell? ⟨g, 1, none⟩ = some (.int .i64 y) := fun o => (World.cell?_of_block (Below.heap_alloc wr o g hg)).trans c2
      have L := fun W => fits_any x y z W
      have hgn : ¬ g = wr.heap.size := by omega
      cases hd : ly (x, y) 0 z with
      | false =>
        simp only [hd] at L
        go_wp2_with fail
        refine (L _).mono ?_
        rintro e' w1 ⟨rfl, hb1⟩
        have R1 : Hid (Below w.heap.size w w1) := (hb.alloc hsz _).trans (hb1.mono (by simp; omega))
        clear hb hb1 L c0 c1 c2 d1 d2
        go_wp2
        go_ret
        have h1 := HK2.out
        rw [ly_no _ e z he hd] at h1
        exact ⟨ret_bool (by rw [← h1]; rfl), R1.out⟩
      | true =>
        simp only [hd] at L
        go_wp2_with fail
        refine (L _).mono ?_
        rintro e' w1 ⟨rfl, hb1⟩
        have R1 : Hid (Below w.heap.size w w1) := (hb.alloc hsz _).trans (hb1.mono (by simp; omega))
        have e0 : w1.cell? ⟨wr.heap.size, 0, none⟩ = some (.slice (some ⟨g, 0, none⟩) 1 1) := (hb1.cell (by simp)).trans (by simp)
        have e1 : w1.cell? ⟨g, 0, none⟩ = some (.int .i64 x) := (hb1.cell (by simp; omega)).trans (d1 _)
        have e2 : w1.cell? ⟨g, 1, none⟩ = some (.int .i64 y) := (hb1.cell (by simp; omega)).trans (d2 _)
        clear hb hb1 L c0 c1 c2 d1 d2
        by_cases hx : x < e
        · go_wp2
          go_ret
          have h1 := HK2.out
          rw [ly_low (x, y) e z hx] at h1
          exact ⟨ret_bool (by rw [← h1]; rfl), R1.out⟩
        · have hx2 : e ≤ x := by omega
          have hxy := ((ly_iff _ _ _).1 hd).2
          simp only at hxy
          go_wp2
          refine wp_loop_rounds 1 ?_
          rw [rounds_succ]
          go_wp2
          go_roundw
          case rel => exact ⟨k + 1, y, by omega, by omega, by go_num, rfl, R1.out, by have h1 := HK2.out; rw [ly_up (x, y) e z hd hx2, Bool.true_and] at h1; exact h1⟩
          case measure => simp [intOf]; omega
    · obtain rfl : k = n := by omega
      have e1 : apB z 0 l = true := by rw [← HK.out, List.drop_eq_nil_of_le (by rw [HS.out.len]; exact Nat.le_refl _)]; rfl
      have R1 : Hid (Below w.heap.size w wr) := hb
      clear hb
      go_wp2
      go_ret
      exact ⟨ret_bool e1.symm, R1.out⟩
end Go.Proofs.Ytfnndnlhdfjggaa.edt
