/- What edit.markOf answers, a way through it a theorem. -/
import Derived.Test.YtfnndnlhdfjggaaEdtMark
set_option linter.unusedVariables false
set_option linter.unusedSimpArgs false
namespace Go.Proofs.Ytfnndnlhdfjggaa.edt
open Go.RowKit

set_option maxHeartbeats 1000000 in
theorem mark_self (b off n cap : Nat) (A : Option Addr) (l : List Int) (w0 w : World) (hB0 : BS w0 (some ⟨b, off, none⟩) n cap l) (hB : BS w (some ⟨b, off, none⟩) n cap l) (h0 : 0 < n) (hx : ¬ l.getD 0 0 = 36) (hcap : cap = 1 ∨ ¬ cap = 1) :
    Calls Try.prog 22 #[.slice (some ⟨b, off, none⟩) n cap] w fun e w' => ∃ v, e = .returned v ∧ MkV w0 (.txt (l.getD 0 0) 1) v ∧ Below w.heap.size w w' := by
  have hl := hB.len
  have hnc := hB.nc
  have hcm := hB.cm
  have c0 : w.cell? ⟨b, off, none⟩ = some (.int .u8 (l.getD 0 0)) := by
    obtain ⟨b', off', e, hc⟩ := hB.at_ h0
    cases e
    exact hc 0 h0
  have hbw : b < w.heap.size := World.block_lt_of_cell? w _ c0
  have hbw2 : ¬ b = w.heap.size := by omega
  have hbw3 : ¬ b = w.heap.size + 1 := by omega
  have hbw4 : ¬ b = w.heap.size + 1 + 1 := by omega
  have h0i : (0 : Int) < (n : Int) := by omega
  have h1i : (1 : Int) ≤ (n : Int) := by omega
  have KC := fun (w : World) (C : Array Value) (n c g : Nat) (hg : g = w.heap.size) => const_at w C n c g hg
  have HT : Hid (BS w0 (some ⟨b, off, none⟩) 1 cap [l.getD 0 0]) := ⟨rfl, by omega, hcm, (fun e => by cases e), range_mem (fun x hx => by simp at hx; subst hx; exact hB0.rg 0), .inr ⟨b, off, rfl, fun i hi => by
      obtain rfl : i = 0 := by omega
      obtain ⟨b', off', e, hc⟩ := hB0.at_ h0
      cases e
      simpa using hc 0 h0⟩⟩
  clear hB hB0
  have hx2 : (l.getD 0 0 == 36) = false := by simpa using hx
  generalize l.getD 0 0 = x at *
  rcases hcap with hcap | hcap
  · subst hcap
    obtain rfl : n = 1 := by omega
    go_enter Try.func22, Try.ntmps22
    go_wp2
    refine bodyPost_ret (v := .agg #[.int .i64 1, .slice (some ⟨b, off, none⟩) 1 1, .int .i64 1]) (by simp [results, Try.results22, go_sem]) rfl ⟨_, rfl, ?_, ?_⟩
    · exact ⟨_, _, rfl, HT.out⟩
    · (repeat' first | exact Below.refl _ _ | refine Below.setCell ?_ (by first | (simp; done) | (simp; omega)) _ | refine Below.alloc ?_ (by first | (simp; done) | (simp; omega)) _)
  · go_enter Try.func22, Try.ntmps22
    go_wp2
    refine bodyPost_ret (v := .agg #[.int .i64 1, .slice (some ⟨b, off, none⟩) 1 cap, .int .i64 1]) (by simp [results, Try.results22, go_sem]) rfl ⟨_, rfl, ?_, ?_⟩
    · exact ⟨_, _, rfl, HT.out⟩
    · (repeat' first | exact Below.refl _ _ | refine Below.setCell ?_ (by first | (simp; done) | (simp; omega)) _ | refine Below.alloc ?_ (by first | (simp; done) | (simp; omega)) _)

set_option maxHeartbeats 1000000 in
theorem mark_end (b off n cap : Nat) (A : Option Addr) (l : List Int) (w0 w : World) (hB0 : BS w0 (some ⟨b, off, none⟩) n cap l) (hB : BS w (some ⟨b, off, none⟩) n cap l) (h0 : 0 < n) (hx0 : l.getD 0 0 = 36) (hx : ¬ l.getD 1 0 = 36) (hxb : ¬ l.getD 1 0 = 123) (hcap : cap = 1) (hn1 : n = 1) :
    Calls Try.prog 22 #[.slice (some ⟨b, off, none⟩) n cap] w fun e w' => ∃ v, e = .returned v ∧ MkV w0 (.bad) v ∧ Below w.heap.size w w' := by
  have hl := hB.len
  have hnc := hB.nc
  have hcm := hB.cm
  have c0 : w.cell? ⟨b, off, none⟩ = some (.int .u8 (l.getD 0 0)) := by
    obtain ⟨b', off', e, hc⟩ := hB.at_ h0
    cases e
    exact hc 0 h0
  have hbw : b < w.heap.size := World.block_lt_of_cell? w _ c0
  have hbw2 : ¬ b = w.heap.size := by omega
  have hbw3 : ¬ b = w.heap.size + 1 := by omega
  have hbw4 : ¬ b = w.heap.size + 1 + 1 := by omega
  have h0i : (0 : Int) < (n : Int) := by omega
  have h1i : (1 : Int) ≤ (n : Int) := by omega
  have KC := fun (w : World) (C : Array Value) (n c g : Nat) (hg : g = w.heap.size) => const_at w C n c g hg
  have HT : Hid (BS w0 (some ⟨b, off, none⟩) 1 cap [l.getD 0 0]) := ⟨rfl, by omega, hcm, (fun e => by cases e), range_mem (fun x hx => by simp at hx; subst hx; exact hB0.rg 0), .inr ⟨b, off, rfl, fun i hi => by
      obtain rfl : i = 0 := by omega
      obtain ⟨b', off', e, hc⟩ := hB0.at_ h0
      cases e
      simpa using hc 0 h0⟩⟩
  obtain rfl : n = 1 := by omega
  subst hcap
  have hS : BS w (some ⟨b, off, none⟩) 0 0 (l.drop 1) := by
    have := hB.sub 1 1 (by omega) (Nat.le_refl _)
    rw [List.take_of_length_le (by rw [List.length_drop]; omega)] at this
    rw [if_pos rfl] at this; exact this
  have hx1 : (l.drop 1).getD 0 0 = l.getD 1 0 := by rw [List.getD_eq_getElem?_getD, List.getElem?_drop, List.getD_eq_getElem?_getD]
  have HP : Hid (∀ (W : World) (g : Nat) (c : Int) (fz : Nat × Nat), Below w.heap.size w W → g = W.heap.size → 0 < c → c ≤ 255 → Calls Try.prog 37 #[.slice (some ⟨b, off, none⟩) 0 0, .slice (some ⟨g, 0, none⟩) 1 1] (W.alloc (.cells #[.int .u8 c] 5 fz)) fun e w' => e = .returned (.bool (decide (l.getD 1 0 = c))) ∧ w' = W.alloc (.cells #[.int .u8 c] 5 fz)) := by
    intro W g c fz hb hg hc1 hc2
    subst hg
    have := has_any (some ⟨b, off, none⟩) 0 0 (l.drop 1) W.heap.size c fz ⟨hc1, hc2⟩ (W.alloc (.cells #[.int .u8 c] 5 fz)) ((hS.below hb).below ((Below.refl _ _).alloc (Nat.le_refl _) _)) (heap_alloc_new W _)
    rw [hx1] at this
    exact this
  have HS : Hid (∀ w', Below w.heap.size w w' → BS w' (some ⟨b, off, none⟩) 0 0 (l.drop 1)) := fun w' hb => hS.below hb
  have HP1 : Hid (decide (l.getD 1 0 = 36) = false) := decide_eq_false hx
  have HP2 : Hid (decide (l.getD 1 0 = 123) = false) := decide_eq_false hxb
  rw [hx0] at c0
  clear hB hB0 hS hx0 hx1 HT hx hxb
  go_enter Try.func22, Try.ntmps22
  go_wp2_with (first | (go_at_call 37; refine (HP.out _ _ _ _ (by (repeat' first | exact Below.refl _ _ | refine Below.setCell ?_ (by first | (simp; done) | (simp; omega)) _ | refine Below.alloc ?_ (by first | (simp; done) | (simp; omega)) _)) (by simp) (by decide) (by decide)).mono ?_; rintro e w' ⟨rfl, hw⟩; subst hw; first | rw [HP1.out] | rw [HP2.out]))
  refine wp_loop_rounds 1 ?_
  rw [rounds_succ]
  go_wp2_with (first | (go_at_call 37; refine (HP.out _ _ _ _ (by (repeat' first | exact Below.refl _ _ | refine Below.setCell ?_ (by first | (simp; done) | (simp; omega)) _ | refine Below.alloc ?_ (by first | (simp; done) | (simp; omega)) _)) (by simp) (by decide) (by decide)).mono ?_; rintro e w' ⟨rfl, hw⟩; subst hw; first | rw [HP1.out] | rw [HP2.out]))
  all_goals
    refine bodyPost_ret (v := .agg #[.int .i64 0, .slice none 0 0, .int .i64 0]) (by simp [results, Try.results22, go_sem]) rfl ⟨_, rfl, ?_, ?_⟩
    · exact ⟨_, _, _, _, rfl⟩
    · (repeat' first | exact Below.refl _ _ | refine Below.setCell ?_ (by first | (simp; done) | (simp; omega)) _ | refine Below.alloc ?_ (by first | (simp; done) | (simp; omega)) _)

set_option maxHeartbeats 1000000 in
theorem mark_two (b off n cap : Nat) (A : Option Addr) (l : List Int) (w0 w : World) (hB0 : BS w0 (some ⟨b, off, none⟩) n cap l) (hB : BS w (some ⟨b, off, none⟩) n cap l) (h0 : 0 < n) (hx0 : l.getD 0 0 = 36) (hx : l.getD 1 0 = 36) (hcap : ¬ cap = 1) :
    Calls Try.prog 22 #[.slice (some ⟨b, off, none⟩) n cap] w fun e w' => ∃ v, e = .returned v ∧ MkV w0 (.txt 36 2) v ∧ Below w.heap.size w w' := by
  have hl := hB.len
  have hnc := hB.nc
  have hcm := hB.cm
  have c0 : w.cell? ⟨b, off, none⟩ = some (.int .u8 (l.getD 0 0)) := by
    obtain ⟨b', off', e, hc⟩ := hB.at_ h0
    cases e
    exact hc 0 h0
  have hbw : b < w.heap.size := World.block_lt_of_cell? w _ c0
  have hbw2 : ¬ b = w.heap.size := by omega
  have hbw3 : ¬ b = w.heap.size + 1 := by omega
  have hbw4 : ¬ b = w.heap.size + 1 + 1 := by omega
  have h0i : (0 : Int) < (n : Int) := by omega
  have h1i : (1 : Int) ≤ (n : Int) := by omega
  have KC := fun (w : World) (C : Array Value) (n c g : Nat) (hg : g = w.heap.size) => const_at w C n c g hg
  have HT : Hid (BS w0 (some ⟨b, off, none⟩) 1 cap [l.getD 0 0]) := ⟨rfl, by omega, hcm, (fun e => by cases e), range_mem (fun x hx => by simp at hx; subst hx; exact hB0.rg 0), .inr ⟨b, off, rfl, fun i hi => by
      obtain rfl : i = 0 := by omega
      obtain ⟨b', off', e, hc⟩ := hB0.at_ h0
      cases e
      simpa using hc 0 h0⟩⟩
  have hS : BS w (some ⟨b, off + 1, none⟩) (n - 1) (cap - 1) (l.drop 1) := by
    have := hB.sub 1 n (by omega) (Nat.le_refl _)
    rw [List.take_of_length_le (by rw [List.length_drop]; omega)] at this
    rw [if_neg (by omega)] at this
    simpa [Addr.add] using this
  have hx1 : (l.drop 1).getD 0 0 = l.getD 1 0 := by rw [List.getD_eq_getElem?_getD, List.getElem?_drop, List.getD_eq_getElem?_getD]
  have HP : Hid (∀ (W : World) (g : Nat) (c : Int) (fz : Nat × Nat), Below w.heap.size w W → g = W.heap.size → 0 < c → c ≤ 255 → Calls Try.prog 37 #[.slice (some ⟨b, off + 1, none⟩) (n - 1) (cap - 1), .slice (some ⟨g, 0, none⟩) 1 1] (W.alloc (.cells #[.int .u8 c] 5 fz)) fun e w' => e = .returned (.bool (decide (l.getD 1 0 = c))) ∧ w' = W.alloc (.cells #[.int .u8 c] 5 fz)) := by
    intro W g c fz hb hg hc1 hc2
    subst hg
    have := has_any (some ⟨b, off + 1, none⟩) (n - 1) (cap - 1) (l.drop 1) W.heap.size c fz ⟨hc1, hc2⟩ (W.alloc (.cells #[.int .u8 c] 5 fz)) ((hS.below hb).below ((Below.refl _ _).alloc (Nat.le_refl _) _)) (heap_alloc_new W _)
    rw [hx1] at this
    exact this
  have HS : Hid (∀ w', Below w.heap.size w w' → BS w' (some ⟨b, off + 1, none⟩) (n - 1) (cap - 1) (l.drop 1)) := fun w' hb => hS.below hb
  have HE : Hid (l.getD 0 0 = 36) := hx0
  have HP1 : Hid (∀ c, decide (l.getD 1 0 = c) = decide (36 = c)) := by intro c; rw [hx]
  rw [hx0] at c0
  clear hB hB0 hS hx0 hx hx1
  go_enter Try.func22, Try.ntmps22
  go_wp2_with (go_at_call 37; refine (HP.out _ _ _ _ (by (repeat' first | exact Below.refl _ _ | refine Below.setCell ?_ (by first | (simp; done) | (simp; omega)) _ | refine Below.alloc ?_ (by first | (simp; done) | (simp; omega)) _)) (by simp) (by decide) (by decide)).mono ?_; rintro e w' ⟨rfl, hw⟩; subst hw; rw [HP1.out])
  refine bodyPost_ret (v := .agg #[.int .i64 1, .slice (some ⟨b, off, none⟩) 1 cap, .int .i64 2]) (by simp [results, Try.results22, go_sem]) rfl ⟨_, rfl, ?_, ?_⟩
  · exact ⟨_, _, rfl, by rw [← HE.out]; exact HT.out⟩
  · (repeat' first | exact Below.refl _ _ | refine Below.setCell ?_ (by first | (simp; done) | (simp; omega)) _ | refine Below.alloc ?_ (by first | (simp; done) | (simp; omega)) _)

set_option maxHeartbeats 1000000 in
theorem mark_brace (b off n cap : Nat) (A : Option Addr) (l : List Int) (w0 w : World) (hB0 : BS w0 (some ⟨b, off, none⟩) n cap l) (hB : BS w (some ⟨b, off, none⟩) n cap l) (h0 : 0 < n) (hx0 : l.getD 0 0 = 36) (hx : l.getD 1 0 = 123) (hcap : ¬ cap = 1) :
    Calls Try.prog 22 #[.slice (some ⟨b, off, none⟩) n cap] w fun e w' => ∃ v, e = .returned v ∧ MkV w0 (mkB l) v ∧ Below w.heap.size w w' := by
  have hl := hB.len
  have hnc := hB.nc
  have hcm := hB.cm
  have c0 : w.cell? ⟨b, off, none⟩ = some (.int .u8 (l.getD 0 0)) := by
    obtain ⟨b', off', e, hc⟩ := hB.at_ h0
    cases e
    exact hc 0 h0
  have hbw : b < w.heap.size := World.block_lt_of_cell? w _ c0
  have hbw2 : ¬ b = w.heap.size := by omega
  have hbw3 : ¬ b = w.heap.size + 1 := by omega
  have hbw4 : ¬ b = w.heap.size + 1 + 1 := by omega
  have h0i : (0 : Int) < (n : Int) := by omega
  have h1i : (1 : Int) ≤ (n : Int) := by omega
  have KC := fun (w : World) (C : Array Value) (n c g : Nat) (hg : g = w.heap.size) => const_at w C n c g hg
  have HT : Hid (BS w0 (some ⟨b, off, none⟩) 1 cap [l.getD 0 0]) := ⟨rfl, by omega, hcm, (fun e => by cases e), range_mem (fun x hx => by simp at hx; subst hx; exact hB0.rg 0), .inr ⟨b, off, rfl, fun i hi => by
      obtain rfl : i = 0 := by omega
      obtain ⟨b', off', e, hc⟩ := hB0.at_ h0
      cases e
      simpa using hc 0 h0⟩⟩
  have hS : BS w (some ⟨b, off + 1, none⟩) (n - 1) (cap - 1) (l.drop 1) := by
    have := hB.sub 1 n (by omega) (Nat.le_refl _)
    rw [List.take_of_length_le (by rw [List.length_drop]; omega)] at this
    rw [if_neg (by omega)] at this
    simpa [Addr.add] using this
  have hx1 : (l.drop 1).getD 0 0 = l.getD 1 0 := by rw [List.getD_eq_getElem?_getD, List.getElem?_drop, List.getD_eq_getElem?_getD]
  have HP : Hid (∀ (W : World) (g : Nat) (c : Int) (fz : Nat × Nat), Below w.heap.size w W → g = W.heap.size → 0 < c → c ≤ 255 → Calls Try.prog 37 #[.slice (some ⟨b, off + 1, none⟩) (n - 1) (cap - 1), .slice (some ⟨g, 0, none⟩) 1 1] (W.alloc (.cells #[.int .u8 c] 5 fz)) fun e w' => e = .returned (.bool (decide (l.getD 1 0 = c))) ∧ w' = W.alloc (.cells #[.int .u8 c] 5 fz)) := by
    intro W g c fz hb hg hc1 hc2
    subst hg
    have := has_any (some ⟨b, off + 1, none⟩) (n - 1) (cap - 1) (l.drop 1) W.heap.size c fz ⟨hc1, hc2⟩ (W.alloc (.cells #[.int .u8 c] 5 fz)) ((hS.below hb).below ((Below.refl _ _).alloc (Nat.le_refl _) _)) (heap_alloc_new W _)
    rw [hx1] at this
    exact this
  have HS : Hid (∀ w', Below w.heap.size w w' → BS w' (some ⟨b, off + 1, none⟩) (n - 1) (cap - 1) (l.drop 1)) := fun w' hb => hS.below hb
  have h2n : 2 ≤ n := by
    rcases Nat.lt_or_ge 1 n with h | h
    · exact h
    · rw [List.getD_eq_getElem?_getD, List.getElem?_eq_none (by omega)] at hx; simp at hx
  have BR : Hid (∀ W, Below w.heap.size w W → Calls Try.prog 38 #[.slice (some ⟨b, off, none⟩) n cap] W fun e w' => ∃ v, e = .returned v ∧ MkV w0 (mkB l) v ∧ Below W.heap.size W w') := fun W hb => braces_any b off n cap l w0 W hB0 (hB.below hb) h2n
  have HP1 : Hid (∀ c, decide (l.getD 1 0 = c) = decide (123 = c)) := by intro c; rw [hx]
  rw [hx0] at c0
  clear hB hB0 hS hx0 hx hx1 HT
  go_enter Try.func22, Try.ntmps22
  go_wp2_with (first | (go_at_call 37; refine (HP.out _ _ _ _ (by (repeat' first | exact Below.refl _ _ | refine Below.setCell ?_ (by first | (simp; done) | (simp; omega)) _ | refine Below.alloc ?_ (by first | (simp; done) | (simp; omega)) _)) (by simp) (by decide) (by decide)).mono ?_; rintro e w' ⟨rfl, hw⟩; subst hw; rw [HP1.out]) | (go_at_call 38; fail))
  refine (BR.out _ (by (repeat' first | exact Below.refl _ _ | refine Below.setCell ?_ (by first | (simp; done) | (simp; omega)) _ | refine Below.alloc ?_ (by first | (simp; done) | (simp; omega)) _))).mono ?_
  rintro e w1 ⟨v, rfl, hv, hb1⟩
  obtain ⟨x, y1, y2, y3, z, rfl⟩ := hv.form
  have hsz := hb1.size
  have HV : Hid (MkV w0 (mkB l) (.agg #[.int .i64 x, .slice y1 y2 y3, .int .i64 z])) := hv
  have hb2 : Hid (Below w.heap.size w w1) := Below.trans (by (repeat' first | exact Below.refl _ _ | refine Below.setCell ?_ (by first | (simp; done) | (simp; omega)) _ | refine Below.alloc ?_ (by first | (simp; done) | (simp; omega)) _)) (hb1.mono (by simp; omega))
  have hk0 : w1.heap[w.heap.size]? = some (.cells #[.int .i64 0, .slice none 0 0, .int .i64 0] 61 (0, 0)) := (hb1.block w.heap.size (by simp; omega)).trans (by rw [Below.heap_alloc _ _ _ (by simp; omega), Below.heap_alloc _ _ _ (by simp), heap_alloc_new])
  obtain ⟨⟨k0, k1, k2⟩, f0, f1, f2⟩ := blk3 hk0
  have HK0 : Hid (w1.heap[w.heap.size]? = some (.cells #[.int .i64 0, .slice none 0 0, .int .i64 0] 61 (0, 0))) := hk0
  clear hv hb1 BR HP hk0
  go_wp2
  refine bodyPost_ret (results_cell_row Try.results22 _ _ w.heap.size _ #[.int .i64 x, .slice y1 y2 y3, .int .i64 z] _ _ rfl (set3 HK0.out) Try.underlying61 rfl infoMark) rfl ⟨_, rfl, ?_, ?_⟩
  · exact HV.out
  · have := hb2.out
    (repeat' first | exact this | refine Below.setCell ?_ (by simp) _)

set_option maxHeartbeats 1000000 in
theorem mark_endb (b off n cap : Nat) (A : Option Addr) (l : List Int) (w0 w : World) (hB0 : BS w0 (some ⟨b, off, none⟩) n cap l) (hB : BS w (some ⟨b, off, none⟩) n cap l) (h0 : 0 < n) (hx0 : l.getD 0 0 = 36) (hx : ¬ l.getD 1 0 = 36) (hxb : ¬ l.getD 1 0 = 123) (hcap : ¬ cap = 1) (hn1 : n = 1) :
    Calls Try.prog 22 #[.slice (some ⟨b, off, none⟩) n cap] w fun e w' => ∃ v, e = .returned v ∧ MkV w0 (.bad) v ∧ Below w.heap.size w w' := by
  have hl := hB.len
  have hnc := hB.nc
  have hcm := hB.cm
  have c0 : w.cell? ⟨b, off, none⟩ = some (.int .u8 (l.getD 0 0)) := by
    obtain ⟨b', off', e, hc⟩ := hB.at_ h0
    cases e
    exact hc 0 h0
  have hbw : b < w.heap.size := World.block_lt_of_cell? w _ c0
  have hbw2 : ¬ b = w.heap.size := by omega
  have hbw3 : ¬ b = w.heap.size + 1 := by omega
  have hbw4 : ¬ b = w.heap.size + 1 + 1 := by omega
  have h0i : (0 : Int) < (n : Int) := by omega
  have h1i : (1 : Int) ≤ (n : Int) := by omega
  have KC := fun (w : World) (C : Array Value) (n c g : Nat) (hg : g = w.heap.size) => const_at w C n c g hg
  have HT : Hid (BS w0 (some ⟨b, off, none⟩) 1 cap [l.getD 0 0]) := ⟨rfl, by omega, hcm, (fun e => by cases e), range_mem (fun x hx => by simp at hx; subst hx; exact hB0.rg 0), .inr ⟨b, off, rfl, fun i hi => by
      obtain rfl : i = 0 := by omega
      obtain ⟨b', off', e, hc⟩ := hB0.at_ h0
      cases e
      simpa using hc 0 h0⟩⟩
  subst hn1
  have hS : BS w (some ⟨b, off + 1, none⟩) 0 (cap - 1) (l.drop 1) := by
    have := hB.sub 1 1 (by omega) (Nat.le_refl _)
    rw [List.take_of_length_le (by rw [List.length_drop]; omega)] at this
    rw [if_neg (by omega)] at this
    simpa [Addr.add] using this
  have hx1 : (l.drop 1).getD 0 0 = l.getD 1 0 := by rw [List.getD_eq_getElem?_getD, List.getElem?_drop, List.getD_eq_getElem?_getD]
  have HP : Hid (∀ (W : World) (g : Nat) (c : Int) (fz : Nat × Nat), Below w.heap.size w W → g = W.heap.size → 0 < c → c ≤ 255 → Calls Try.prog 37 #[.slice (some ⟨b, off + 1, none⟩) 0 (cap - 1), .slice (some ⟨g, 0, none⟩) 1 1] (W.alloc (.cells #[.int .u8 c] 5 fz)) fun e w' => e = .returned (.bool (decide (l.getD 1 0 = c))) ∧ w' = W.alloc (.cells #[.int .u8 c] 5 fz)) := by
    intro W g c fz hb hg hc1 hc2
    subst hg
    have := has_any (some ⟨b, off + 1, none⟩) 0 (cap - 1) (l.drop 1) W.heap.size c fz ⟨hc1, hc2⟩ (W.alloc (.cells #[.int .u8 c] 5 fz)) ((hS.below hb).below ((Below.refl _ _).alloc (Nat.le_refl _) _)) (heap_alloc_new W _)
    rw [hx1] at this
    exact this
  have HS : Hid (∀ w', Below w.heap.size w w' → BS w' (some ⟨b, off + 1, none⟩) 0 (cap - 1) (l.drop 1)) := fun w' hb => hS.below hb
  have HP1 : Hid (decide (l.getD 1 0 = 36) = false) := decide_eq_false hx
  have HP2 : Hid (decide (l.getD 1 0 = 123) = false) := decide_eq_false hxb
  rw [hx0] at c0
  clear hB hB0 hS hx0 hx1 HT hx hxb
  go_enter Try.func22, Try.ntmps22
  go_wp2_with (first | (go_at_call 37; refine (HP.out _ _ _ _ (by (repeat' first | exact Below.refl _ _ | refine Below.setCell ?_ (by first | (simp; done) | (simp; omega)) _ | refine Below.alloc ?_ (by first | (simp; done) | (simp; omega)) _)) (by simp) (by decide) (by decide)).mono ?_; rintro e w' ⟨rfl, hw⟩; subst hw; first | rw [HP1.out] | rw [HP2.out]))
  refine wp_loop_rounds 1 ?_
  rw [rounds_succ]
  go_wp2_with (first | (go_at_call 37; refine (HP.out _ _ _ _ (by (repeat' first | exact Below.refl _ _ | refine Below.setCell ?_ (by first | (simp; done) | (simp; omega)) _ | refine Below.alloc ?_ (by first | (simp; done) | (simp; omega)) _)) (by simp) (by decide) (by decide)).mono ?_; rintro e w' ⟨rfl, hw⟩; subst hw; first | rw [HP1.out] | rw [HP2.out]))
  all_goals
    refine bodyPost_ret (v := .agg #[.int .i64 0, .slice none 0 0, .int .i64 0]) (by simp [results, Try.results22, go_sem]) rfl ⟨_, rfl, ?_, ?_⟩
    · exact ⟨_, _, _, _, rfl⟩
    · (repeat' first | exact Below.refl _ _ | refine Below.setCell ?_ (by first | (simp; done) | (simp; omega)) _ | refine Below.alloc ?_ (by first | (simp; done) | (simp; omega)) _)

set_option maxHeartbeats 1000000 in
theorem mark_none (b off n cap : Nat) (A : Option Addr) (l : List Int) (w0 w : World) (hB0 : BS w0 (some ⟨b, off, none⟩) n cap l) (hB : BS w (some ⟨b, off, none⟩) n cap l) (h0 : 0 < n) (hx0 : l.getD 0 0 = 36) (hx : ¬ l.getD 1 0 = 36) (hxb : ¬ l.getD 1 0 = 123) (hcap : ¬ cap = 1) (hn1 : 2 ≤ n) (hd : dg (l.getD 1 0) = false) :
    Calls Try.prog 22 #[.slice (some ⟨b, off, none⟩) n cap] w fun e w' => ∃ v, e = .returned v ∧ MkV w0 (.bad) v ∧ Below w.heap.size w w' := by
  have hl := hB.len
  have hnc := hB.nc
  have hcm := hB.cm
  have c0 : w.cell? ⟨b, off, none⟩ = some (.int .u8 (l.getD 0 0)) := by
    obtain ⟨b', off', e, hc⟩ := hB.at_ h0
    cases e
    exact hc 0 h0
  have hbw : b < w.heap.size := World.block_lt_of_cell? w _ c0
  have hbw2 : ¬ b = w.heap.size := by omega
  have hbw3 : ¬ b = w.heap.size + 1 := by omega
  have hbw4 : ¬ b = w.heap.size + 1 + 1 := by omega
  have h0i : (0 : Int) < (n : Int) := by omega
  have h1i : (1 : Int) ≤ (n : Int) := by omega
  have KC := fun (w : World) (C : Array Value) (n c g : Nat) (hg : g = w.heap.size) => const_at w C n c g hg
  have HT : Hid (BS w0 (some ⟨b, off, none⟩) 1 cap [l.getD 0 0]) := ⟨rfl, by omega, hcm, (fun e => by cases e), range_mem (fun x hx => by simp at hx; subst hx; exact hB0.rg 0), .inr ⟨b, off, rfl, fun i hi => by
      obtain rfl : i = 0 := by omega
      obtain ⟨b', off', e, hc⟩ := hB0.at_ h0
      cases e
      simpa using hc 0 h0⟩⟩
  have hS : BS w (some ⟨b, off + 1, none⟩) (n - 1) (cap - 1) (l.drop 1) := by
    have := hB.sub 1 n (by omega) (Nat.le_refl _)
    rw [List.take_of_length_le (by rw [List.length_drop]; omega)] at this
    rw [if_neg (by omega)] at this
    simpa [Addr.add] using this
  have hx1 : (l.drop 1).getD 0 0 = l.getD 1 0 := by rw [List.getD_eq_getElem?_getD, List.getElem?_drop, List.getD_eq_getElem?_getD]
  have HP : Hid (∀ (W : World) (g : Nat) (c : Int) (fz : Nat × Nat), Below w.heap.size w W → g = W.heap.size → 0 < c → c ≤ 255 → Calls Try.prog 37 #[.slice (some ⟨b, off + 1, none⟩) (n - 1) (cap - 1), .slice (some ⟨g, 0, none⟩) 1 1] (W.alloc (.cells #[.int .u8 c] 5 fz)) fun e w' => e = .returned (.bool (decide (l.getD 1 0 = c))) ∧ w' = W.alloc (.cells #[.int .u8 c] 5 fz)) := by
    intro W g c fz hb hg hc1 hc2
    subst hg
    have := has_any (some ⟨b, off + 1, none⟩) (n - 1) (cap - 1) (l.drop 1) W.heap.size c fz ⟨hc1, hc2⟩ (W.alloc (.cells #[.int .u8 c] 5 fz)) ((hS.below hb).below ((Below.refl _ _).alloc (Nat.le_refl _) _)) (heap_alloc_new W _)
    rw [hx1] at this
    exact this
  have HS : Hid (∀ w', Below w.heap.size w w' → BS w' (some ⟨b, off + 1, none⟩) (n - 1) (cap - 1) (l.drop 1)) := fun w' hb => hS.below hb
  have HP1 : Hid (decide (l.getD 1 0 = 36) = false) := decide_eq_false hx
  have HP2 : Hid (decide (l.getD 1 0 = 123) = false) := decide_eq_false hxb
  rw [hx0] at c0
  have hc1 : w.cell? ⟨b, off + 1, none⟩ = some (.int .u8 (l.getD 1 0)) := by
    obtain ⟨b', off', e, hc⟩ := hB.at_ h0
    cases e
    exact hc 1 (by omega)
  have D1 := fun W => isDigit_any (l.getD 1 0) W
  rw [hd] at D1
  have hcA1 : ∀ o1 o2 o3 : Obj, (((w.alloc o1).alloc o2).alloc o3).cell? ⟨b, off + 1, none⟩ = some (.int .u8 (l.getD 1 0)) := fun _ _ _ => Lib.cell?_alloc_marked _ (Lib.cell?_alloc_marked _ (Lib.cell?_alloc_marked _ hc1))
  have q0 : (0 : Int) < ((n - 1 : Nat) : Int) := by omega
  have q3 : (1 : Int) ≤ ((n - 1 : Nat) : Int) := by omega
  clear hB hB0 hS hx0 hx1 HT hx hxb
  generalize l.getD 1 0 = x1 at *
  go_enter Try.func22, Try.ntmps22
  go_wp2_with (first | (go_at_call 37; refine (HP.out _ _ _ _ (by (repeat' first | exact Below.refl _ _ | refine Below.setCell ?_ (by first | (simp; done) | (simp; omega)) _ | refine Below.alloc ?_ (by first | (simp; done) | (simp; omega)) _)) (by simp) (by decide) (by decide)).mono ?_; rintro e w' ⟨rfl, hw⟩; subst hw; first | rw [HP1.out] | rw [HP2.out]) | (go_at_call 39; go_loud (refine (D1 _).mono ?_); rintro e w' ⟨rfl, hw⟩; subst hw))
  refine wp_loop_rounds 1 ?_
  rw [rounds_succ]
  go_wp2_with (first | (go_at_call 37; refine (HP.out _ _ _ _ (by (repeat' first | exact Below.refl _ _ | refine Below.setCell ?_ (by first | (simp; done) | (simp; omega)) _ | refine Below.alloc ?_ (by first | (simp; done) | (simp; omega)) _)) (by simp) (by decide) (by decide)).mono ?_; rintro e w' ⟨rfl, hw⟩; subst hw; first | rw [HP1.out] | rw [HP2.out]) | (go_at_call 39; go_loud (refine (D1 _).mono ?_); rintro e w' ⟨rfl, hw⟩; subst hw))
  all_goals
    refine bodyPost_ret (v := .agg #[.int .i64 0, .slice none 0 0, .int .i64 0]) (by simp [results, Try.results22, go_sem]) rfl ⟨_, rfl, ?_, ?_⟩
    · exact ⟨_, _, _, _, rfl⟩
    · (repeat' first | exact Below.refl _ _ | refine Below.setCell ?_ (by first | (simp; done) | (simp; omega)) _ | refine Below.alloc ?_ (by first | (simp; done) | (simp; omega)) _)

set_option maxHeartbeats 1000000 in
theorem mark_one (b off n cap : Nat) (A : Option Addr) (l : List Int) (w0 w : World) (hB0 : BS w0 (some ⟨b, off, none⟩) n cap l) (hB : BS w (some ⟨b, off, none⟩) n cap l) (h0 : 0 < n) (hx0 : l.getD 0 0 = 36) (hx : ¬ l.getD 1 0 = 36) (hxb : ¬ l.getD 1 0 = 123) (hcap : ¬ cap = 1) (hn1 : n = 2) (hd : dg (l.getD 1 0) = true) :
    Calls Try.prog 22 #[.slice (some ⟨b, off, none⟩) n cap] w fun e w' => ∃ v, e = .returned v ∧ MkV w0 (.num [l.getD 1 0] 2) v ∧ Below w.heap.size w w' := by
  have hl := hB.len
  have hnc := hB.nc
  have hcm := hB.cm
  have c0 : w.cell? ⟨b, off, none⟩ = some (.int .u8 (l.getD 0 0)) := by
    obtain ⟨b', off', e, hc⟩ := hB.at_ h0
    cases e
    exact hc 0 h0
  have hbw : b < w.heap.size := World.block_lt_of_cell? w _ c0
  have hbw2 : ¬ b = w.heap.size := by omega
  have hbw3 : ¬ b = w.heap.size + 1 := by omega
  have hbw4 : ¬ b = w.heap.size + 1 + 1 := by omega
  have h0i : (0 : Int) < (n : Int) := by omega
  have h1i : (1 : Int) ≤ (n : Int) := by omega
  have KC := fun (w : World) (C : Array Value) (n c g : Nat) (hg : g = w.heap.size) => const_at w C n c g hg
  have HT : Hid (BS w0 (some ⟨b, off, none⟩) 1 cap [l.getD 0 0]) := ⟨rfl, by omega, hcm, (fun e => by cases e), range_mem (fun x hx => by simp at hx; subst hx; exact hB0.rg 0), .inr ⟨b, off, rfl, fun i hi => by
      obtain rfl : i = 0 := by omega
      obtain ⟨b', off', e, hc⟩ := hB0.at_ h0
      cases e
      simpa using hc 0 h0⟩⟩
  subst hn1
  have hS : BS w (some ⟨b, off + 1, none⟩) 1 (cap - 1) (l.drop 1) := by
    have := hB.sub 1 2 (by omega) (Nat.le_refl _)
    rw [List.take_of_length_le (by rw [List.length_drop]; omega)] at this
    rw [if_neg (by omega)] at this
    simpa [Addr.add] using this
  have hx1 : (l.drop 1).getD 0 0 = l.getD 1 0 := by rw [List.getD_eq_getElem?_getD, List.getElem?_drop, List.getD_eq_getElem?_getD]
  have HP : Hid (∀ (W : World) (g : Nat) (c : Int) (fz : Nat × Nat), Below w.heap.size w W → g = W.heap.size → 0 < c → c ≤ 255 → Calls Try.prog 37 #[.slice (some ⟨b, off + 1, none⟩) 1 (cap - 1), .slice (some ⟨g, 0, none⟩) 1 1] (W.alloc (.cells #[.int .u8 c] 5 fz)) fun e w' => e = .returned (.bool (decide (l.getD 1 0 = c))) ∧ w' = W.alloc (.cells #[.int .u8 c] 5 fz)) := by
    intro W g c fz hb hg hc1 hc2
    subst hg
    have := has_any (some ⟨b, off + 1, none⟩) 1 (cap - 1) (l.drop 1) W.heap.size c fz ⟨hc1, hc2⟩ (W.alloc (.cells #[.int .u8 c] 5 fz)) ((hS.below hb).below ((Below.refl _ _).alloc (Nat.le_refl _) _)) (heap_alloc_new W _)
    rw [hx1] at this
    exact this
  have HS : Hid (∀ w', Below w.heap.size w w' → BS w' (some ⟨b, off + 1, none⟩) 1 (cap - 1) (l.drop 1)) := fun w' hb => hS.below hb
  have HP1 : Hid (decide (l.getD 1 0 = 36) = false) := decide_eq_false hx
  have HP2 : Hid (decide (l.getD 1 0 = 123) = false) := decide_eq_false hxb
  rw [hx0] at c0
  have hc1 : w.cell? ⟨b, off + 1, none⟩ = some (.int .u8 (l.getD 1 0)) := by
    obtain ⟨b', off', e, hc⟩ := hB.at_ h0
    cases e
    exact hc 1 (by omega)
  have D1 := fun W => isDigit_any (l.getD 1 0) W
  rw [hd] at D1
  have hcA1 : ∀ o1 o2 o3 : Obj, (((w.alloc o1).alloc o2).alloc o3).cell? ⟨b, off + 1, none⟩ = some (.int .u8 (l.getD 1 0)) := fun _ _ _ => Lib.cell?_alloc_marked _ (Lib.cell?_alloc_marked _ (Lib.cell?_alloc_marked _ hc1))
  have HN : Hid (BS w0 (some ⟨b, off + 1, none⟩) 1 (cap - 1) [l.getD 1 0]) := by
    have := hB0.sub 1 2 (by omega) (by omega)
    rw [if_neg (by omega)] at this
    have e : (l.drop 1).take (2 - 1) = [l.getD 1 0] := by
      rw [drop_cons l 1 0 (by omega)]; rfl
    rw [e, show Option.map (fun x : Addr => x.add 1) (some ⟨b, off, none⟩) = some ⟨b, off + 1, none⟩ from by simp [Addr.add]] at this
    exact this
  have HDG : Hid (∀ x ∈ [l.getD 1 0], dg x = true) := by
    intro x hx
    simp only [List.mem_cons, List.mem_nil_iff, or_false] at hx
    rcases hx with rfl
    exact hd
  clear hB hB0 hS hx0 hx1 HT hx hxb
  generalize l.getD 1 0 = x1 at *
  go_enter Try.func22, Try.ntmps22
  go_wp2_with (first | (go_at_call 37; refine (HP.out _ _ _ _ (by (repeat' first | exact Below.refl _ _ | refine Below.setCell ?_ (by first | (simp; done) | (simp; omega)) _ | refine Below.alloc ?_ (by first | (simp; done) | (simp; omega)) _)) (by simp) (by decide) (by decide)).mono ?_; rintro e w' ⟨rfl, hw⟩; subst hw; first | rw [HP1.out] | rw [HP2.out]) | (go_at_call 39; go_loud (refine (D1 _).mono ?_); rintro e w' ⟨rfl, hw⟩; subst hw))
  refine wp_loop_rounds 2 ?_
  rw [rounds_succ]
  go_wp2_with (first | (go_at_call 37; refine (HP.out _ _ _ _ (by (repeat' first | exact Below.refl _ _ | refine Below.setCell ?_ (by first | (simp; done) | (simp; omega)) _ | refine Below.alloc ?_ (by first | (simp; done) | (simp; omega)) _)) (by simp) (by decide) (by decide)).mono ?_; rintro e w' ⟨rfl, hw⟩; subst hw; first | rw [HP1.out] | rw [HP2.out]) | (go_at_call 39; go_loud (refine (D1 _).mono ?_); rintro e w' ⟨rfl, hw⟩; subst hw))
  rw [rounds_succ]
  go_wp2_with (first | (go_at_call 37; refine (HP.out _ _ _ _ (by (repeat' first | exact Below.refl _ _ | refine Below.setCell ?_ (by first | (simp; done) | (simp; omega)) _ | refine Below.alloc ?_ (by first | (simp; done) | (simp; omega)) _)) (by simp) (by decide) (by decide)).mono ?_; rintro e w' ⟨rfl, hw⟩; subst hw; first | rw [HP1.out] | rw [HP2.out]) | (go_at_call 39; go_loud (refine (D1 _).mono ?_); rintro e w' ⟨rfl, hw⟩; subst hw))
  all_goals
    refine bodyPost_ret (v := .agg #[.int .i64 2, .slice (some ⟨b, off + 1, none⟩) 1 (cap - 1), .int .i64 2]) (by simp [results, Try.results22, go_sem]) rfl ⟨_, rfl, ?_, ?_⟩
    · exact ⟨_, _, rfl, HN.out, by simp, HDG.out⟩
    · (repeat' first | exact Below.refl _ _ | refine Below.setCell ?_ (by first | (simp; done) | (simp; omega)) _ | refine Below.alloc ?_ (by first | (simp; done) | (simp; omega)) _)

set_option maxHeartbeats 1000000 in
theorem mark_onec (b off n cap : Nat) (A : Option Addr) (l : List Int) (w0 w : World) (hB0 : BS w0 (some ⟨b, off, none⟩) n cap l) (hB : BS w (some ⟨b, off, none⟩) n cap l) (h0 : 0 < n) (hx0 : l.getD 0 0 = 36) (hx : ¬ l.getD 1 0 = 36) (hxb : ¬ l.getD 1 0 = 123) (hcap : ¬ cap = 1) (hn1 : 3 ≤ n) (hd : dg (l.getD 1 0) = true) (hd2 : dg (l.getD 2 0) = false) :
    Calls Try.prog 22 #[.slice (some ⟨b, off, none⟩) n cap] w fun e w' => ∃ v, e = .returned v ∧ MkV w0 (.num [l.getD 1 0] 2) v ∧ Below w.heap.size w w' := by
  have hl := hB.len
  have hnc := hB.nc
  have hcm := hB.cm
  have c0 : w.cell? ⟨b, off, none⟩ = some (.int .u8 (l.getD 0 0)) := by
    obtain ⟨b', off', e, hc⟩ := hB.at_ h0
    cases e
    exact hc 0 h0
  have hbw : b < w.heap.size := World.block_lt_of_cell? w _ c0
  have hbw2 : ¬ b = w.heap.size := by omega
  have hbw3 : ¬ b = w.heap.size + 1 := by omega
  have hbw4 : ¬ b = w.heap.size + 1 + 1 := by omega
  have h0i : (0 : Int) < (n : Int) := by omega
  have h1i : (1 : Int) ≤ (n : Int) := by omega
  have KC := fun (w : World) (C : Array Value) (n c g : Nat) (hg : g = w.heap.size) => const_at w C n c g hg
  have HT : Hid (BS w0 (some ⟨b, off, none⟩) 1 cap [l.getD 0 0]) := ⟨rfl, by omega, hcm, (fun e => by cases e), range_mem (fun x hx => by simp at hx; subst hx; exact hB0.rg 0), .inr ⟨b, off, rfl, fun i hi => by
      obtain rfl : i = 0 := by omega
      obtain ⟨b', off', e, hc⟩ := hB0.at_ h0
      cases e
      simpa using hc 0 h0⟩⟩
  have hS : BS w (some ⟨b, off + 1, none⟩) (n - 1) (cap - 1) (l.drop 1) := by
    have := hB.sub 1 n (by omega) (Nat.le_refl _)
    rw [List.take_of_length_le (by rw [List.length_drop]; omega)] at this
    rw [if_neg (by omega)] at this
    simpa [Addr.add] using this
  have hx1 : (l.drop 1).getD 0 0 = l.getD 1 0 := by rw [List.getD_eq_getElem?_getD, List.getElem?_drop, List.getD_eq_getElem?_getD]
  have HP : Hid (∀ (W : World) (g : Nat) (c : Int) (fz : Nat × Nat), Below w.heap.size w W → g = W.heap.size → 0 < c → c ≤ 255 → Calls Try.prog 37 #[.slice (some ⟨b, off + 1, none⟩) (n - 1) (cap - 1), .slice (some ⟨g, 0, none⟩) 1 1] (W.alloc (.cells #[.int .u8 c] 5 fz)) fun e w' => e = .returned (.bool (decide (l.getD 1 0 = c))) ∧ w' = W.alloc (.cells #[.int .u8 c] 5 fz)) := by
    intro W g c fz hb hg hc1 hc2
    subst hg
    have := has_any (some ⟨b, off + 1, none⟩) (n - 1) (cap - 1) (l.drop 1) W.heap.size c fz ⟨hc1, hc2⟩ (W.alloc (.cells #[.int .u8 c] 5 fz)) ((hS.below hb).below ((Below.refl _ _).alloc (Nat.le_refl _) _)) (heap_alloc_new W _)
    rw [hx1] at this
    exact this
  have HS : Hid (∀ w', Below w.heap.size w w' → BS w' (some ⟨b, off + 1, none⟩) (n - 1) (cap - 1) (l.drop 1)) := fun w' hb => hS.below hb
  have HP1 : Hid (decide (l.getD 1 0 = 36) = false) := decide_eq_false hx
  have HP2 : Hid (decide (l.getD 1 0 = 123) = false) := decide_eq_false hxb
  rw [hx0] at c0
  have hc1 : w.cell? ⟨b, off + 1, none⟩ = some (.int .u8 (l.getD 1 0)) := by
    obtain ⟨b', off', e, hc⟩ := hB.at_ h0
    cases e
    exact hc 1 (by omega)
  have D1 := fun W => isDigit_any (l.getD 1 0) W
  rw [hd] at D1
  have hcA1 : ∀ o1 o2 o3 : Obj, (((w.alloc o1).alloc o2).alloc o3).cell? ⟨b, off + 1, none⟩ = some (.int .u8 (l.getD 1 0)) := fun _ _ _ => Lib.cell?_alloc_marked _ (Lib.cell?_alloc_marked _ (Lib.cell?_alloc_marked _ hc1))
  have hc2 : w.cell? ⟨b, off + 2, none⟩ = some (.int .u8 (l.getD 2 0)) := by
    obtain ⟨b', off', e, hc⟩ := hB.at_ h0
    cases e
    exact hc 2 (by omega)
  have D2 := fun W => isDigit_any (l.getD 2 0) W
  rw [hd2] at D2
  have hcA2 : ∀ o1 o2 o3 : Obj, (((w.alloc o1).alloc o2).alloc o3).cell? ⟨b, off + 1 + 1, none⟩ = some (.int .u8 (l.getD 2 0)) := fun _ _ _ => Lib.cell?_alloc_marked _ (Lib.cell?_alloc_marked _ (Lib.cell?_alloc_marked _ hc2))
  have HN : Hid (BS w0 (some ⟨b, off + 1, none⟩) 1 (cap - 1) [l.getD 1 0]) := by
    have := hB0.sub 1 2 (by omega) (by omega)
    rw [if_neg (by omega)] at this
    have e : (l.drop 1).take (2 - 1) = [l.getD 1 0] := by
      rw [drop_cons l 1 0 (by omega)]; rfl
    rw [e, show Option.map (fun x : Addr => x.add 1) (some ⟨b, off, none⟩) = some ⟨b, off + 1, none⟩ from by simp [Addr.add]] at this
    exact this
  have HDG : Hid (∀ x ∈ [l.getD 1 0], dg x = true) := by
    intro x hx
    simp only [List.mem_cons, List.mem_nil_iff, or_false] at hx
    rcases hx with rfl
    exact hd
  have q0 : (0 : Int) < ((n - 1 : Nat) : Int) := by omega
  have q1 : (1 : Int) < ((n - 1 : Nat) : Int) := by omega
  have q2 : (2 : Int) ≤ ((n - 1 : Nat) : Int) := by omega
  have q3 : (1 : Int) ≤ ((n - 1 : Nat) : Int) := by omega
  clear hB hB0 hS hx0 hx1 HT hx hxb
  generalize l.getD 1 0 = x1 at *
  generalize l.getD 2 0 = x2 at *
  go_enter Try.func22, Try.ntmps22
  go_wp2_with (first | (go_at_call 37; refine (HP.out _ _ _ _ (by (repeat' first | exact Below.refl _ _ | refine Below.setCell ?_ (by first | (simp; done) | (simp; omega)) _ | refine Below.alloc ?_ (by first | (simp; done) | (simp; omega)) _)) (by simp) (by decide) (by decide)).mono ?_; rintro e w' ⟨rfl, hw⟩; subst hw; first | rw [HP1.out] | rw [HP2.out]) | (go_at_call 39; refine (D1 _).mono ?_; rintro e w' ⟨rfl, hw⟩; subst hw) | (go_at_call 39; refine (D2 _).mono ?_; rintro e w' ⟨rfl, hw⟩; subst hw))
  refine wp_loop_rounds 2 ?_
  rw [rounds_succ]
  go_wp2_with (first | (go_at_call 37; refine (HP.out _ _ _ _ (by (repeat' first | exact Below.refl _ _ | refine Below.setCell ?_ (by first | (simp; done) | (simp; omega)) _ | refine Below.alloc ?_ (by first | (simp; done) | (simp; omega)) _)) (by simp) (by decide) (by decide)).mono ?_; rintro e w' ⟨rfl, hw⟩; subst hw; first | rw [HP1.out] | rw [HP2.out]) | (go_at_call 39; refine (D1 _).mono ?_; rintro e w' ⟨rfl, hw⟩; subst hw) | (go_at_call 39; refine (D2 _).mono ?_; rintro e w' ⟨rfl, hw⟩; subst hw))
  rw [rounds_succ]
  go_wp2_with (first | (go_at_call 37; refine (HP.out _ _ _ _ (by (repeat' first | exact Below.refl _ _ | refine Below.setCell ?_ (by first | (simp; done) | (simp; omega)) _ | refine Below.alloc ?_ (by first | (simp; done) | (simp; omega)) _)) (by simp) (by decide) (by decide)).mono ?_; rintro e w' ⟨rfl, hw⟩; subst hw; first | rw [HP1.out] | rw [HP2.out]) | (go_at_call 39; refine (D1 _).mono ?_; rintro e w' ⟨rfl, hw⟩; subst hw) | (go_at_call 39; refine (D2 _).mono ?_; rintro e w' ⟨rfl, hw⟩; subst hw))
  all_goals
    refine bodyPost_ret (v := .agg #[.int .i64 2, .slice (some ⟨b, off + 1, none⟩) 1 (cap - 1), .int .i64 2]) (by simp [results, Try.results22, go_sem]) rfl ⟨_, rfl, ?_, ?_⟩
    · exact ⟨_, _, rfl, HN.out, by simp, HDG.out⟩
    · (repeat' first | exact Below.refl _ _ | refine Below.setCell ?_ (by first | (simp; done) | (simp; omega)) _ | refine Below.alloc ?_ (by first | (simp; done) | (simp; omega)) _)

set_option maxHeartbeats 1000000 in
theorem mark_both (b off n cap : Nat) (A : Option Addr) (l : List Int) (w0 w : World) (hB0 : BS w0 (some ⟨b, off, none⟩) n cap l) (hB : BS w (some ⟨b, off, none⟩) n cap l) (h0 : 0 < n) (hx0 : l.getD 0 0 = 36) (hx : ¬ l.getD 1 0 = 36) (hxb : ¬ l.getD 1 0 = 123) (hcap : ¬ cap = 1) (hn1 : 3 ≤ n) (hd : dg (l.getD 1 0) = true) (hd2 : dg (l.getD 2 0) = true) :
    Calls Try.prog 22 #[.slice (some ⟨b, off, none⟩) n cap] w fun e w' => ∃ v, e = .returned v ∧ MkV w0 (.num [l.getD 1 0, l.getD 2 0] 3) v ∧ Below w.heap.size w w' := by
  have hl := hB.len
  have hnc := hB.nc
  have hcm := hB.cm
  have c0 : w.cell? ⟨b, off, none⟩ = some (.int .u8 (l.getD 0 0)) := by
    obtain ⟨b', off', e, hc⟩ := hB.at_ h0
    cases e
    exact hc 0 h0
  have hbw : b < w.heap.size := World.block_lt_of_cell? w _ c0
  have hbw2 : ¬ b = w.heap.size := by omega
  have hbw3 : ¬ b = w.heap.size + 1 := by omega
  have hbw4 : ¬ b = w.heap.size + 1 + 1 := by omega
  have h0i : (0 : Int) < (n : Int) := by omega
  have h1i : (1 : Int) ≤ (n : Int) := by omega
  have KC := fun (w : World) (C : Array Value) (n c g : Nat) (hg : g = w.heap.size) => const_at w C n c g hg
  have HT : Hid (BS w0 (some ⟨b, off, none⟩) 1 cap [l.getD 0 0]) := ⟨rfl, by omega, hcm, (fun e => by cases e), range_mem (fun x hx => by simp at hx; subst hx; exact hB0.rg 0), .inr ⟨b, off, rfl, fun i hi => by
      obtain rfl : i = 0 := by omega
      obtain ⟨b', off', e, hc⟩ := hB0.at_ h0
      cases e
      simpa using hc 0 h0⟩⟩
  have hS : BS w (some ⟨b, off + 1, none⟩) (n - 1) (cap - 1) (l.drop 1) := by
    have := hB.sub 1 n (by omega) (Nat.le_refl _)
    rw [List.take_of_length_le (by rw [List.length_drop]; omega)] at this
    rw [if_neg (by omega)] at this
    simpa [Addr.add] using this
  have hx1 : (l.drop 1).getD 0 0 = l.getD 1 0 := by rw [List.getD_eq_getElem?_getD, List.getElem?_drop, List.getD_eq_getElem?_getD]
  have HP : Hid (∀ (W : World) (g : Nat) (c : Int) (fz : Nat × Nat), Below w.heap.size w W → g = W.heap.size → 0 < c → c ≤ 255 → Calls Try.prog 37 #[.slice (some ⟨b, off + 1, none⟩) (n - 1) (cap - 1), .slice (some ⟨g, 0, none⟩) 1 1] (W.alloc (.cells #[.int .u8 c] 5 fz)) fun e w' => e = .returned (.bool (decide (l.getD 1 0 = c))) ∧ w' = W.alloc (.cells #[.int .u8 c] 5 fz)) := by
    intro W g c fz hb hg hc1 hc2
    subst hg
    have := has_any (some ⟨b, off + 1, none⟩) (n - 1) (cap - 1) (l.drop 1) W.heap.size c fz ⟨hc1, hc2⟩ (W.alloc (.cells #[.int .u8 c] 5 fz)) ((hS.below hb).below ((Below.refl _ _).alloc (Nat.le_refl _) _)) (heap_alloc_new W _)
    rw [hx1] at this
    exact this
  have HS : Hid (∀ w', Below w.heap.size w w' → BS w' (some ⟨b, off + 1, none⟩) (n - 1) (cap - 1) (l.drop 1)) := fun w' hb => hS.below hb
  have HP1 : Hid (decide (l.getD 1 0 = 36) = false) := decide_eq_false hx
  have HP2 : Hid (decide (l.getD 1 0 = 123) = false) := decide_eq_false hxb
  rw [hx0] at c0
  have hc1 : w.cell? ⟨b, off + 1, none⟩ = some (.int .u8 (l.getD 1 0)) := by
    obtain ⟨b', off', e, hc⟩ := hB.at_ h0
    cases e
    exact hc 1 (by omega)
  have D1 := fun W => isDigit_any (l.getD 1 0) W
  rw [hd] at D1
  have hcA1 : ∀ o1 o2 o3 : Obj, (((w.alloc o1).alloc o2).alloc o3).cell? ⟨b, off + 1, none⟩ = some (.int .u8 (l.getD 1 0)) := fun _ _ _ => Lib.cell?_alloc_marked _ (Lib.cell?_alloc_marked _ (Lib.cell?_alloc_marked _ hc1))
  have hc2 : w.cell? ⟨b, off + 2, none⟩ = some (.int .u8 (l.getD 2 0)) := by
    obtain ⟨b', off', e, hc⟩ := hB.at_ h0
    cases e
    exact hc 2 (by omega)
  have D2 := fun W => isDigit_any (l.getD 2 0) W
  rw [hd2] at D2
  have hcA2 : ∀ o1 o2 o3 : Obj, (((w.alloc o1).alloc o2).alloc o3).cell? ⟨b, off + 1 + 1, none⟩ = some (.int .u8 (l.getD 2 0)) := fun _ _ _ => Lib.cell?_alloc_marked _ (Lib.cell?_alloc_marked _ (Lib.cell?_alloc_marked _ hc2))
  have HN : Hid (BS w0 (some ⟨b, off + 1, none⟩) 2 (cap - 1) [l.getD 1 0, l.getD 2 0]) := by
    have := hB0.sub 1 3 (by omega) (by omega)
    rw [if_neg (by omega)] at this
    have e : (l.drop 1).take (3 - 1) = [l.getD 1 0, l.getD 2 0] := by
      rw [drop_cons l 1 0 (by omega), drop_cons l 2 0 (by omega)]; rfl
    rw [e, show Option.map (fun x : Addr => x.add 1) (some ⟨b, off, none⟩) = some ⟨b, off + 1, none⟩ from by simp [Addr.add]] at this
    exact this
  have HDG : Hid (∀ x ∈ [l.getD 1 0, l.getD 2 0], dg x = true) := by
    intro x hx
    simp only [List.mem_cons, List.mem_nil_iff, or_false] at hx
    rcases hx with rfl | rfl
    · exact hd
    · exact hd2
  have q0 : (0 : Int) < ((n - 1 : Nat) : Int) := by omega
  have q1 : (1 : Int) < ((n - 1 : Nat) : Int) := by omega
  have q2 : (2 : Int) ≤ ((n - 1 : Nat) : Int) := by omega
  have q3 : (1 : Int) ≤ ((n - 1 : Nat) : Int) := by omega
  clear hB hB0 hS hx0 hx1 HT hx hxb
  generalize l.getD 1 0 = x1 at *
  generalize l.getD 2 0 = x2 at *
  go_enter Try.func22, Try.ntmps22
  go_wp2_with (first | (go_at_call 37; refine (HP.out _ _ _ _ (by (repeat' first | exact Below.refl _ _ | refine Below.setCell ?_ (by first | (simp; done) | (simp; omega)) _ | refine Below.alloc ?_ (by first | (simp; done) | (simp; omega)) _)) (by simp) (by decide) (by decide)).mono ?_; rintro e w' ⟨rfl, hw⟩; subst hw; first | rw [HP1.out] | rw [HP2.out]) | (go_at_call 39; refine (D1 _).mono ?_; rintro e w' ⟨rfl, hw⟩; subst hw) | (go_at_call 39; refine (D2 _).mono ?_; rintro e w' ⟨rfl, hw⟩; subst hw))
  refine wp_loop_rounds 3 ?_
  rw [rounds_succ]
  go_wp2_with (first | (go_at_call 37; refine (HP.out _ _ _ _ (by (repeat' first | exact Below.refl _ _ | refine Below.setCell ?_ (by first | (simp; done) | (simp; omega)) _ | refine Below.alloc ?_ (by first | (simp; done) | (simp; omega)) _)) (by simp) (by decide) (by decide)).mono ?_; rintro e w' ⟨rfl, hw⟩; subst hw; first | rw [HP1.out] | rw [HP2.out]) | (go_at_call 39; refine (D1 _).mono ?_; rintro e w' ⟨rfl, hw⟩; subst hw) | (go_at_call 39; refine (D2 _).mono ?_; rintro e w' ⟨rfl, hw⟩; subst hw))
  rw [rounds_succ]
  go_wp2_with (first | (go_at_call 37; refine (HP.out _ _ _ _ (by (repeat' first | exact Below.refl _ _ | refine Below.setCell ?_ (by first | (simp; done) | (simp; omega)) _ | refine Below.alloc ?_ (by first | (simp; done) | (simp; omega)) _)) (by simp) (by decide) (by decide)).mono ?_; rintro e w' ⟨rfl, hw⟩; subst hw; first | rw [HP1.out] | rw [HP2.out]) | (go_at_call 39; refine (D1 _).mono ?_; rintro e w' ⟨rfl, hw⟩; subst hw) | (go_at_call 39; refine (D2 _).mono ?_; rintro e w' ⟨rfl, hw⟩; subst hw))
  rw [rounds_succ]
  go_wp2_with (first | (go_at_call 37; refine (HP.out _ _ _ _ (by (repeat' first | exact Below.refl _ _ | refine Below.setCell ?_ (by first | (simp; done) | (simp; omega)) _ | refine Below.alloc ?_ (by first | (simp; done) | (simp; omega)) _)) (by simp) (by decide) (by decide)).mono ?_; rintro e w' ⟨rfl, hw⟩; subst hw; first | rw [HP1.out] | rw [HP2.out]) | (go_at_call 39; refine (D1 _).mono ?_; rintro e w' ⟨rfl, hw⟩; subst hw) | (go_at_call 39; refine (D2 _).mono ?_; rintro e w' ⟨rfl, hw⟩; subst hw))
  all_goals
    refine bodyPost_ret (v := .agg #[.int .i64 2, .slice (some ⟨b, off + 1, none⟩) 2 (cap - 1), .int .i64 3]) (by simp [results, Try.results22, go_sem]) rfl ⟨_, rfl, ?_, ?_⟩
    · exact ⟨_, _, rfl, HN.out, by simp, HDG.out⟩
    · (repeat' first | exact Below.refl _ _ | refine Below.setCell ?_ (by first | (simp; done) | (simp; omega)) _ | refine Below.alloc ?_ (by first | (simp; done) | (simp; omega)) _)

theorem mark_some (b off n cap : Nat) (l : List Int) (w0 w : World) (hB0 : BS w0 (some ⟨b, off, none⟩) n cap l) (hB : BS w (some ⟨b, off, none⟩) n cap l) (h0 : 0 < n) :
    Calls Try.prog 22 #[.slice (some ⟨b, off, none⟩) n cap] w fun e w' => ∃ v, e = .returned v ∧ MkV w0 (mk l) v ∧ Below w.heap.size w w' := by
  have hl := hB.len
  have hnc := hB.nc
  have out : ∀ i, n ≤ i → l.getD i 0 = 0 := fun i hi => by rw [List.getD_eq_getElem?_getD, List.getElem?_eq_none (by omega)]; rfl
  unfold mk
  by_cases h1 : ¬ l.getD 0 0 = 36
  · rw [if_pos h1]
    exact mark_self b off n cap none l w0 w hB0 hB h0 h1 (by omega)
  rw [if_neg h1]
  have h1' : l.getD 0 0 = 36 := Decidable.not_not.1 h1
  by_cases hcap : cap = 1
  · have e1 := out 1 (by omega)
    rw [if_neg (by rw [e1]; decide), if_neg (by rw [e1]; decide), if_neg (by rw [e1]; decide)]
    exact mark_end b off n cap none l w0 w hB0 hB h0 h1' (by rw [e1]; decide) (by rw [e1]; decide) hcap (by omega)
  by_cases h2 : l.getD 1 0 = 36
  · rw [if_pos h2]
    exact mark_two b off n cap none l w0 w hB0 hB h0 h1' h2 hcap
  rw [if_neg h2]
  by_cases h3 : l.getD 1 0 = 123
  · rw [if_pos h3]
    exact mark_brace b off n cap none l w0 w hB0 hB h0 h1' h3 hcap
  rw [if_neg h3]
  by_cases hn1 : n = 1
  · have e1 := out 1 (by omega)
    rw [if_neg (by rw [e1]; decide)]
    exact mark_endb b off n cap none l w0 w hB0 hB h0 h1' h2 h3 hcap hn1
  cases hd : dg (l.getD 1 0) with
  | false =>
    rw [if_neg (by decide)]
    exact mark_none b off n cap none l w0 w hB0 hB h0 h1' h2 h3 hcap (by omega) hd
  | true =>
    rw [if_pos rfl]
    by_cases hn2 : n = 2
    · have e1 := out 2 (by omega)
      rw [if_neg (by rw [e1]; decide)]
      exact mark_one b off n cap none l w0 w hB0 hB h0 h1' h2 h3 hcap hn2 hd
    cases hd2 : dg (l.getD 2 0) with
    | false =>
      rw [if_neg (by decide)]
      exact mark_onec b off n cap none l w0 w hB0 hB h0 h1' h2 h3 hcap (by omega) hd hd2
    | true =>
      rw [if_pos rfl]
      exact mark_both b off n cap none l w0 w hB0 hB h0 h1' h2 h3 hcap (by omega) hd hd2
/-- markOf at bytes, one at least. -/
theorem mark_any (ao : Option Addr) (n cap : Nat) (l : List Int) (w0 w : World) (hB0 : BS w0 ao n cap l) (hB : BS w ao n cap l) (h0 : 0 < n) :
    Calls Try.prog 22 #[.slice ao n cap] w fun e w' => ∃ v, e = .returned v ∧ MkV w0 (mk l) v ∧ Below w.heap.size w w' := by
  obtain ⟨b, off, rfl, _⟩ := hB.at_ h0
  exact mark_some b off n cap l w0 w hB0 hB h0
end Go.Proofs.Ytfnndnlhdfjggaa.edt
