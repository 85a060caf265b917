/- What the statements' SameRecords answers of equal records: true. -/
import Derived.Test.YtciblkmbkdhdiaaDoorLinAwake
set_option linter.unusedVariables false
set_option linter.unusedSimpArgs false
namespace Go.Proofs.YtciblkmbkdhdiaaDoor.lin
open Go.RowKit

theorem RecAt.below {w w' : World} {b off : Nat} {r : RecT} (h : RecAt w b off r) {n : Nat} (hb : Below n w w') (hn : w.heap.size ≤ n) : RecAt w' b off r := by
  obtain ⟨h1, h2, g, o, c, h3, h4⟩ := h
  have k : ∀ (a : Addr) (v : Value), w.cell? a = some v → w'.cell? a = some v := fun a v h => (hb.cell (p := a) (by have := World.block_lt_of_cell? w a h; omega)).trans h
  exact ⟨k _ _ h1, k _ _ h2, g, o, c, k _ _ h3, fun j hj => k _ _ (h4 j hj)⟩

set_option maxHeartbeats 1000000 in
set_option maxRecDepth 100000 in
/-- Equal records, told by the closure. -/
theorem same1_any (lo hi : Int) (g1 o1 c1 g2 o2 c2 : Nat) (fs : List ByteArray) (w : World) (hn : fs.length ≤ 1099511627776)
    (h1 : ∀ j, j < fs.length → w.cell? ⟨g1, o1 + j, none⟩ = some (.string (fs.getD j ByteArray.empty))) (h2 : ∀ j, j < fs.length → w.cell? ⟨g2, o2 + j, none⟩ = some (.string (fs.getD j ByteArray.empty))) :
    Calls Tryd.prog 30 #[.agg #[.int .i64 lo, .int .i64 hi, .slice (some ⟨g1, o1, none⟩) fs.length c1], .agg #[.int .i64 lo, .int .i64 hi, .slice (some ⟨g2, o2, none⟩) fs.length c2]] w fun e w' => e = .returned (.bool true) ∧ Below w.heap.size w w' := by
  have SE : ∀ W, Below w.heap.size w W → Calls Tryd.prog 15 #[.slice (some ⟨g1, o1, none⟩) fs.length c1, .slice (some ⟨g2, o2, none⟩) fs.length c2] W fun e w' => e = .returned (.bool true) ∧ ∃ q, w' = W.drewN q := by
    intro W hW
    have k : ∀ (a : Addr) (v : Value), w.cell? a = some v → W.cell? a = some v := fun a v h => (hW.cell (p := a) (World.block_lt_of_cell? w a h)).trans h
    refine (Tryd.slices_Equal_string g1 o1 fs.length c1 g2 o2 fs.length c2 fs fs W (Nat.le_refl _) (Nat.le_refl _) (by omega) (by omega) (fun j hj => k _ _ (h1 j hj)) (fun j hj => k _ _ (h2 j hj))).mono ?_
    rintro e w' ⟨rfl, q, rfl⟩
    exact ⟨by simp, q, rfl⟩
  have t1 : (lo == lo) = true := by simp
  have t2 : (hi == hi) = true := by simp
  clear h1 h2
  go_enter Tryd.func30, Tryd.ntmps30
  go_wp2_with fail
  refine (SE _ (((Below.refl _ w).alloc (Nat.le_refl _) _).alloc (by simp) _)).mono ?_
  rintro e w2 ⟨rfl, q, rfl⟩
  go_wp2
  go_ret
  exact ⟨rfl, (((Below.refl _ w).alloc (Nat.le_refl _) _).alloc (by simp) _).trans ⟨rfl, rfl, rfl, Nat.le_refl _, fun _ _ => rfl⟩⟩

set_option maxHeartbeats 2000000 in
set_option maxRecDepth 100000 in
theorem equalRecs (b1 o1 c1 b2 o2 c2 : Nat) (rs : List RecT) (w : World) (hn : rs.length ≤ 1099511627776) (hl : ∀ r ∈ rs, r.2.2.length ≤ 1099511627776)
    (h1 : ∀ i r, rs[i]? = some r → RecAt w b1 (o1 + i * 3) r) (h2 : ∀ i r, rs[i]? = some r → RecAt w b2 (o2 + i * 3) r) :
    Calls Tryd.prog 29 #[.slice (some ⟨b1, o1, none⟩) rs.length c1, .slice (some ⟨b2, o2, none⟩) rs.length c2, .func (.func 30) #[] #[]] w fun e w' => e = .returned (.bool true) ∧ Below w.heap.size w w' := by
  have H1 : Hid (∀ i r, rs[i]? = some r → RecAt w b1 (o1 + i * 3) r) := h1
  have H2 : Hid (∀ i r, rs[i]? = some r → RecAt w b2 (o2 + i * 3) r) := h2
  have HL : Hid (∀ r ∈ rs, r.2.2.length ≤ 1099511627776) := hl
  have hnn : ((rs.length : Int) != (rs.length : Int)) = false := by simp
  have HN : Hid (∀ i, i < rs.length → ∃ r, rs[i]? = some r) := fun i h => ⟨_, List.getElem?_eq_getElem h⟩
  clear h1 h2 hl
  go_enter Tryd.func29, Tryd.ntmps29
  go_wp2
  go_loopw [17] (fun i wr => ∃ k : Nat, k ≤ rs.length ∧ i = .int .i64 k ∧ Below w.heap.size w wr) (fun i _ => rs.length - (intOf i).toNat)
  case atStart => exact ⟨0, Nat.zero_le _, rfl, Below.refl _ _⟩
  case round =>
    obtain ⟨k, hk, rfl, hbel⟩ := hrel
    by_cases hlt : k < rs.length
    · obtain ⟨r, hr⟩ := HN.out k hlt
      obtain ⟨p1, p2, g1, q1, d1, p3, p4⟩ := (H1.out k r hr).below hbel (Nat.le_refl _)
      obtain ⟨m1, m2, g2, q2, d2, m3, m4⟩ := (H2.out k r hr).below hbel (Nat.le_refl _)
      have hz := HL.out r (List.mem_of_getElem? hr)
      obtain ⟨lo, hi, fs⟩ := r
      simp only [] at p1 p2 p3 p4 m1 m2 m3 m4 hz
      have hb2 : b2 < wr.heap.size := World.block_lt_of_cell? wr _ m1
      have n1 : ∀ o, (wr.alloc o).cell? ⟨b2, o2 + k * 3, none⟩ = some (.int .i64 lo) := fun o => (World.cell?_of_block (w := wr) (a := ⟨b2, o2 + k * 3, none⟩) (Below.heap_alloc _ _ _ hb2)).trans m1
      have n2 : ∀ o, (wr.alloc o).cell? ⟨b2, o2 + k * 3 + 1, none⟩ = some (.int .i64 hi) := fun o => (World.cell?_of_block (w := wr) (a := ⟨b2, o2 + k * 3 + 1, none⟩) (Below.heap_alloc _ _ _ hb2)).trans m2
      have n3 : ∀ o, (wr.alloc o).cell? ⟨b2, o2 + k * 3 + 1 + 1, none⟩ = some (.slice (some ⟨g2, q2, none⟩) fs.length d2) := fun o => (World.cell?_of_block (w := wr) (a := ⟨b2, o2 + k * 3 + 1 + 1, none⟩) (Below.heap_alloc _ _ _ hb2)).trans m3
      have hlt' : (k : Int) < (rs.length : Int) := by omega
      have SA : ∀ W, Below wr.heap.size wr W → Calls Tryd.prog 30 #[.agg #[.int .i64 lo, .int .i64 hi, .slice (some ⟨g1, q1, none⟩) fs.length d1], .agg #[.int .i64 lo, .int .i64 hi, .slice (some ⟨g2, q2, none⟩) fs.length d2]] W fun e w' => e = .returned (.bool true) ∧ Below W.heap.size W w' := by
        intro W hW
        have kk : ∀ (a : Addr) (v : Value), wr.cell? a = some v → W.cell? a = some v := fun a v h => (hW.cell (p := a) (World.block_lt_of_cell? wr a h)).trans h
        exact same1_any lo hi g1 q1 d1 g2 q2 d2 fs W hz (fun j hj => kk _ _ (p4 j hj)) (fun j hj => kk _ _ (m4 j hj))
      clear p4 m4 m1 m2 m3 hr
      go_wp2_with fail
      have al : ∀ x y, Below wr.heap.size wr ((wr.alloc x).alloc y) := fun x y => ((Below.refl _ wr).alloc (Nat.le_refl _) _).alloc (by simp) _
      refine (SA _ (al _ _)).mono ?_
      rintro e w2 ⟨rfl, hb3⟩
      have R1 := (hbel.trans ((al _ _).mono hbel.size)).trans (hb3.mono (Nat.le_trans hbel.size (al _ _).size))
      clear SA al hb3
      go_wp2
      go_roundw
      case rel => exact ⟨k + 1, by omega, by go_num, R1⟩
      case measure => simp [intOf]; omega
    · obtain rfl : k = rs.length := by omega
      go_wp2
      go_ret
      exact ⟨rfl, hbel⟩

theorem equalRecs_none (a1 a2 : Option Addr) (c1 c2 : Nat) (w : World) :
    Calls Tryd.prog 29 #[.slice a1 0 c1, .slice a2 0 c2, .func (.func 30) #[] #[]] w fun e w' => e = .returned (.bool true) ∧ Below w.heap.size w w' := by
  go_enter Tryd.func29, Tryd.ntmps29
  go_wp2
  refine wp_loop_rounds 1 ?_
  rw [rounds_succ]
  go_wp2
  go_ret
  exact ⟨rfl, Below.refl _ _⟩

/-- A slice of records rs. -/
def View (w : World) (v : Value) (rs : List RecT) : Prop :=
  ∃ a c, v = .slice a rs.length c ∧ (0 < rs.length → ∃ b o, a = some ⟨b, o, none⟩ ∧ ∀ i r, rs[i]? = some r → RecAt w b (o + i * 3) r)
theorem Recs.seen {w : World} {base : Nat} {v : Value} {rs : List RecT} (h : Recs w base v rs) : View w v rs := by
  obtain ⟨a, c, rfl, hv⟩ := h.view
  refine ⟨a, c, rfl, fun h => ?_⟩
  obtain ⟨g, rfl, _, _, hr⟩ := hv h
  exact ⟨g, 0, rfl, fun i r hi => by rw [Nat.zero_add]; exact hr i r hi⟩
theorem View.below {w w' : World} {v : Value} {rs : List RecT} (h : View w v rs) {n : Nat} (hb : Below n w w') (hn : w.heap.size ≤ n) : View w' v rs := by
  obtain ⟨a, c, rfl, hv⟩ := h
  refine ⟨a, c, rfl, fun h => ?_⟩
  obtain ⟨g, o, rfl, hr⟩ := hv h
  exact ⟨g, o, rfl, fun i r hi => (hr i r hi).below hb hn⟩

theorem sameRecs_any (v1 v2 : Value) (rs : List RecT) (w : World) (hn : rs.length ≤ 1099511627776) (hl : ∀ r ∈ rs, r.2.2.length ≤ 1099511627776) (h1 : View w v1 rs) (h2 : View w v2 rs) :
    Calls Tryd.prog 16 #[v1, v2] w fun e w' => e = .returned (.bool true) ∧ Below w.heap.size w w' := by
  have EQ : Calls Tryd.prog 29 #[v1, v2, .func (.func 30) #[] #[]] w fun e w' => e = .returned (.bool true) ∧ Below w.heap.size w w' := by
    obtain ⟨a1, c1, rfl, k1⟩ := h1
    obtain ⟨a2, c2, rfl, k2⟩ := h2
    rcases Nat.eq_zero_or_pos rs.length with h0 | h0
    · rw [h0]; exact equalRecs_none a1 a2 c1 c2 w
    · obtain ⟨b1, o1, rfl, q1⟩ := k1 h0
      obtain ⟨b2, o2, rfl, q2⟩ := k2 h0
      exact equalRecs b1 o1 c1 b2 o2 c2 rs w hn hl q1 q2
  clear h1 h2
  go_enter Tryd.func16, Tryd.ntmps16
  go_wp2_with fail
  refine EQ.mono ?_
  rintro e w2 ⟨rfl, hb⟩
  go_wp2
  go_ret
  exact ⟨rfl, hb⟩
end Go.Proofs.YtciblkmbkdhdiaaDoor.lin
