/- Texts that the proof leans on, one behind the other. -/
import Derived.Test.YtnjomfmdogkhgaaGreatDoorBnd12
import Derived.Test.YtnjomfmdogkhgaaGreatDoorBnd10

section
/- names.Resolve: what an expression names. -/
set_option linter.unusedVariables false
set_option linter.unusedSimpArgs false
namespace Go.Proofs.YtnjomfmdogkhgaaGreatDoor.nam
open Go.RowKit lin

/-- What a property and a value of it name. -/
def bothL (p v : List UInt8) : Int × List UInt8 × Int :=
  match lookL ([112, 114], looseL p) with
  | none => (0, [], 50)
  | some r => match lookL (r.2.1, looseL v) with
    | none => (0, [], 51)
    | some q => (numL r.2.1, q.2.1, 0)
def resolveV (s : ByteArray) : Int × List UInt8 × Int :=
  if markI s < 0 then aloneL (looseL s.data.toList) else bothL (s.data.toList.take (markI s).toNat) (s.data.toList.drop ((markI s).toNat + 1))
theorem both0 {p v : List UInt8} (h : lookL ([112, 114], looseL p) = none) : bothL p v = (0, [], 50) := by unfold bothL; rw [h]
theorem both1 {p v : List UInt8} {r : R3} (h : lookL ([112, 114], looseL p) = some r) (h2 : lookL (r.2.1, looseL v) = none) : bothL p v = (0, [], 51) := by unfold bothL; simp only [h, h2]
theorem both2 {p v : List UInt8} {r q : R3} (h : lookL ([112, 114], looseL p) = some r) (h2 : lookL (r.2.1, looseL v) = some q) : bothL p v = (numL r.2.1, q.2.1, 0) := by unfold bothL; simp only [h, h2]
theorem ext_take (s : ByteArray) (p : Nat) : s.extract 0 p = BA (s.data.toList.take p) := by rw [ext_list]; simp
theorem ext_drop (s : ByteArray) (p : Nat) : s.extract p s.size = BA (s.data.toList.drop p) := by
  rw [ext_list, List.take_of_length_le]
  simp
theorem drewBelow {w w' : World} {n : Nat} (h : Below n w w') : Below n w w'.drew := ⟨h.os, h.tape, h.output, h.size, h.block⟩
theorem fromDrew {w w' : World} {n : Nat} (h : Below n w.drew w') : Below n w w' := ⟨h.os, h.tape, h.output, h.size, h.block⟩

theorem blk2 {w : World} {g : Nat} {x y : Value} {t : TypeId} (h : w.heap[g]? = some (.cells #[x, y] t (0, 0))) : w.cell? ⟨g, 0, none⟩ = some x ∧ w.cell? ⟨g, 1, none⟩ = some y ∧ w.frozen? ⟨g, 0, none⟩ = false ∧ w.frozen? ⟨g, 1, none⟩ = false := by
  simp [World.cell?, World.frozen?, h]
theorem set_block {w : World} {g : Nat} {x y : Value} {t : TypeId} (h : w.heap[g]? = some (.cells #[x, y] t (0, 0))) (a b : Value) :
    ((w.setCell ⟨g, 0, none⟩ a).setCell ⟨g, 1, none⟩ b).heap[g]? = some (.cells #[a, b] t (0, 0)) := by
  have h1 := heap_setCell_same w g 0 _ _ a h
  have h2 := heap_setCell_same _ g 1 _ _ b h1
  exact h2

set_option maxHeartbeats 1500000 in
set_option maxRecDepth 100000 in
theorem resolve_any (s : ByteArray) (w : World) (hs : s.size ≤ 140737488355327) :
    Calls Tryz.prog 31 #[.string s] w fun e w' => e = .returned (.tuple #[.int .i64 (resolveV s).1, .string (BA (resolveV s).2.1), .int .i64 (resolveV s).2.2]) ∧ Below w.heap.size w w' := by
  have FA := file_any w
  go_enter Tryz.func31, Tryz.ntmps31
  go_wp2_with fail
  refine FA.mono ?_
  rintro e w1 ⟨b, rfl, hb, hm1, b1⟩
  clear FA
  have AN := any_any s w1 (by omega)
  have hs1 := b1.size
  go_wp2_with fail
  refine AN.mono ?_
  rintro e w2 ⟨rfl, hb2⟩
  clear AN
  have hm2 := hm1.below hb2
  have b2 := b1.trans (hb2.mono hs1)
  have hs2 := b2.size
  clear hm1 hb2 b1
  have hll := looseL_len s.data.toList
  rw [size_list] at hll
  rcases mark_cases s with ⟨hmk, _⟩ | ⟨p, hmk, hp, _, _⟩
  · have HE : Hid (resolveV s = aloneL (looseL s.data.toList)) := by unfold Hid resolveV; rw [if_pos (by rw [hmk]; decide)]
    have LO := loose_any s w2 hs
    rw [hmk]
    clear hmk
    generalize looseL s.data.toList = l at *
    go_wp2_with fail
    refine LO.mono ?_
    rintro e w3 ⟨rfl, hb3⟩
    have AL := alone_any b l w3 (hm2.below hb3) (by omega)
    clear LO
    go_wp2_with fail
    refine AL.mono ?_
    rintro e w4 ⟨rfl, hb4⟩
    clear AL
    have b4 := (b2.trans (hb3.mono hs2)).trans (hb4.mono (b2.trans (hb3.mono hs2)).size)
    go_wp2
    go_ret3
    exact ⟨by rw [HE.out]; rfl, b4⟩
  · have HE : Hid (resolveV s = bothL (s.data.toList.take p) (s.data.toList.drop (p + 1))) := by unfold Hid resolveV; rw [hmk, if_neg (by omega)]; rfl
    have x1 := ext_take s p
    have x2 := ext_drop s (p + 1)
    have hl1 : (s.data.toList.take p).length ≤ s.size := by rw [List.length_take, size_list]; omega
    have hl2 : (s.data.toList.drop (p + 1)).length ≤ s.size := by rw [List.length_drop, size_list]; omega
    generalize s.data.toList.take p = P at *
    generalize s.data.toList.drop (p + 1) = V at *
    have LO := loose_any (BA P) w2 (by rw [BA_size]; omega)
    rw [BA_data] at LO
    have hl3 := looseL_len P
    have hl4 := looseL_len V
    have hp0 : ¬ (p : Int) < 0 := by omega
    have hp1 : (p : Int) ≤ (s.size : Int) := by omega
    have hp2 : (p : Int) + 1 ≤ (s.size : Int) := by omega
    rw [hmk]
    clear hmk
    go_wp2_with fail
    refine LO.mono ?_
    rintro e w3 ⟨rfl, hb3⟩
    clear LO
    have hm3 := hm2.below hb3
    have b3 := b2.trans (hb3.mono hs2)
    have hs3 := b3.size
    clear hm2 hb3 b2
    cases hlk : lookL ([112, 114], looseL P) with
    | none =>
      have LK : (Instr.lookup 84 (.map (some b)) (.agg #[.string ⟨#[112, 114]⟩, .string (BA (looseL P))]) true).run Tryz.prog w3 = .ok (.tuple #[.agg #[.string ⟨#[]⟩, .string ⟨#[]⟩], .bool false]) w3 := look_none hm3 (k := [112, 114]) (by decide) (by omega) hlk
      have HE2 : Hid (resolveV s = (0, [], 50)) := HE.out.trans (both0 hlk)
      clear hlk HE
      go_wp2
      go_ret3
      exact ⟨by rw [HE2.out]; rfl, b3.alloc hs3 _⟩
    | some r =>
      have LK : (Instr.lookup 84 (.map (some b)) (.agg #[.string ⟨#[112, 114]⟩, .string (BA (looseL P))]) true).run Tryz.prog w3 = .ok (.tuple #[.agg #[.string (BA r.2.1), .string (BA r.2.2)], .bool true]) w3 := look_some hm3 (k := [112, 114]) (by decide) (by omega) hlk
      have hrs := rows_small r (look_mem hlk).1
      have HE1 : Hid (lookL (r.2.1, looseL V) = none → resolveV s = (0, [], 51)) := fun h => HE.out.trans (both1 hlk h)
      have HE2 : Hid (∀ q, lookL (r.2.1, looseL V) = some q → resolveV s = (numL r.2.1, q.2.1, 0)) := fun q h => HE.out.trans (both2 hlk h)
      clear hlk HE
      obtain ⟨r0, r1, r2⟩ := r
      simp only at LK hrs HE1 HE2
      obtain ⟨xa, xb, okk2, LQ, HE3⟩ : ∃ (xa xb : List UInt8) (okk2 : Bool), Hid (∀ w', Nm w' b → (Instr.lookup 84 (.map (some b)) (.agg #[.string (BA r1), .string (BA (looseL V))]) true).run Tryz.prog w' = .ok (.tuple #[.agg #[.string (BA xa), .string (BA xb)], .bool okk2]) w') ∧ Hid (resolveV s = if okk2 then (numL r1, xa, 0) else (0, [], 51)) := by
        cases hlq : lookL (r1, looseL V) with
        | none => exact ⟨[], [], false, fun w' h => look_none h (by omega) (by omega) hlq, HE1.out hlq⟩
        | some q => exact ⟨q.2.1, q.2.2, true, fun w' h => look_some h (by omega) (by omega) hlq, HE2.out q hlq⟩
      clear HE1 HE2
      have LV : Hid (∀ W, Calls Tryz.prog 65 #[.string (BA V)] W fun e w' => e = .returned (.string (BA (looseL V))) ∧ Below W.heap.size W w') := fun W => loose_any (BA V) W (by rw [BA_size]; omega)
      have NU : Hid (∀ W, Calls Tryz.prog 66 #[.string (BA r1)] W fun e w' => e = .returned (.int .i64 (numL r1)) ∧ w' = W) := fun W => number_any r1 W
      have hp3 : (0 : Int) ≤ (p : Int) + 1 := by omega
      have wp1 : IntKind.i64.wrap ((p : Int) + 1) = (p : Int) + 1 := by rw [IntKind.wrap_i64]; omega
      go_wp2
      have hm4 := hm3.below ((Below.refl _ w3).alloc (Nat.le_refl _) (.cells #[.string (BA r1), .string (BA r2)] 90))
      have b4 := b3.alloc hs3 (.cells #[.string (BA r1), .string (BA r2)] 90)
      have nb4 : (w3.alloc (.cells #[.string (BA r1), .string (BA r2)] 90)).heap[w3.heap.size]? = some (.cells #[.string (BA r1), .string (BA r2)] 90 (0, 0)) := World.alloc_heap_new _ _
      have hz4 : w3.heap.size < (w3.alloc (.cells #[.string (BA r1), .string (BA r2)] 90)).heap.size := by rw [World.size_alloc]; omega
      obtain ⟨W4, hW4⟩ : ∃ W4, w3.alloc (.cells #[.string (BA r1), .string (BA r2)] 90) = W4 := ⟨_, rfl⟩
      rw [hW4] at hm4 b4 nb4 hz4 ⊢
      clear hW4 hm3 b3 LK
      have c0 := (blk2 nb4).1
      have hs4 := b4.size
      refine wp_region_noPanic ?_
      refine wp_region_held_drew (S := fun w' => w'.cell? ⟨w3.heap.size, 0, none⟩ = some (.string (BA r1)) ∧ Nm w' b) (by kernel_rfl) ?_ (fun hHeld => ?_)
      · exact ⟨c0, hm4⟩
      refine wpAnyH_take (i := 0) (v := ?_) rfl (by kernel_rfl) (by kernel_rfl) (by kernel_rfl) (fun _ _ _ h => h) (Or.inl ⟨by rfl, ?_⟩) (by assumption) ?_
      rotate_left
      · (intro w' hSw; (try dsimp only at hSw); go_simp; try with_reducible rfl)
      try simp only [Act.put, List.setIfInBounds_toArray, List.set_cons_zero, List.set_cons_succ]
      refine wpAnyH_take (i := 1) (v := ?_) rfl (by kernel_rfl) (by kernel_rfl) (by kernel_rfl) (fun _ _ _ h => h) (Or.inl ⟨by rfl, ?_⟩) (by assumption) ?_
      rotate_left
      · (intro w' hSw; (try dsimp only at hSw); go_simp; try with_reducible rfl)
      try simp only [Act.put, List.setIfInBounds_toArray, List.set_cons_zero, List.set_cons_succ]
      refine wpAnyH_take (i := 2) (v := ?_) rfl (by kernel_rfl) (by kernel_rfl) (by kernel_rfl) (fun _ _ _ h => h) (Or.inl ⟨by rfl, ?_⟩) (by assumption) ?_
      rotate_left
      · (intro w' hSw; (try dsimp only at hSw); go_simp; try with_reducible rfl)
      try simp only [Act.put, List.setIfInBounds_toArray, List.set_cons_zero, List.set_cons_succ]
      refine wpAnyH_take (i := 3) (v := ?_) rfl (by kernel_rfl) (by kernel_rfl) (by kernel_rfl) (fun _ _ _ h => h) (Or.inl ⟨by rfl, ?_⟩) (by assumption) ?_
      rotate_left
      · (intro w' hSw; (try dsimp only at hSw); go_simp; try with_reducible rfl)
      try simp only [Act.put, List.setIfInBounds_toArray, List.set_cons_zero, List.set_cons_succ]
      refine wpAnyH_take (i := 4) (v := ?_) rfl (by kernel_rfl) (by kernel_rfl) (by kernel_rfl) (fun _ _ _ h => h) (Or.inl ⟨by rfl, ?_⟩) (by assumption) ?_
      rotate_left
      · (intro w' hSw; (try dsimp only at hSw); go_simp; try with_reducible rfl)
      try simp only [Act.put, List.setIfInBounds_toArray, List.set_cons_zero, List.set_cons_succ]
      refine wpAnyH_take (i := 5) (v := ?_) rfl (by kernel_rfl) (by kernel_rfl) (by kernel_rfl) (fun _ _ _ h => h) (Or.inl ⟨by rfl, ?_⟩) (by assumption) ?_
      rotate_left
      · (intro w' hSw; (try dsimp only at hSw); go_simp; try with_reducible rfl)
      try simp only [Act.put, List.setIfInBounds_toArray, List.set_cons_zero, List.set_cons_succ]
      refine wpAnyH_take (i := 6) (v := ?_) rfl (by kernel_rfl) (by kernel_rfl) (by kernel_rfl) (fun _ _ _ h => h) (Or.inl ⟨by rfl, ?_⟩) (by assumption) ?_
      rotate_left
      · (intro w' hSw; (try dsimp only at hSw); go_simp; try with_reducible rfl)
      try simp only [Act.put, List.setIfInBounds_toArray, List.set_cons_zero, List.set_cons_succ]
      refine wpAnyH_ready (rs := [7, 13]) (by kernel_rfl) (by simp) ?_
      refine AllReadyH.cons rfl (fun K hK => ?_) (AllReadyH.cons rfl (fun K hK => ?_) AllReadyH.nil)
      · go_simp
        refine (LV.out _).mono ?_
        rintro e w5 ⟨rfl, hb5⟩
        have hb5 := fromDrew hb5
        have c5 : w5.cell? ⟨w3.heap.size, 0, none⟩ = some (.string (BA r1)) := (hb5.cell (p := ⟨w3.heap.size, 0, none⟩) (by show w3.heap.size < W4.heap.size; omega)).trans c0
        have hm5 : Nm w5 b := hm4.below hb5
        have b5 : Below w.heap.size w w5 := b4.trans (hb5.mono hs4)
        have hs5 := b5.size
        have hs45 := hb5.size
        have hlt5 : w3.heap.size < w5.heap.size := by omega
        have hne5 : ¬ w3.heap.size = w5.heap.size := by omega
        clear hHeld hb5 hm4 nb4 c0
        refine hK.out _ _ ?_ (fun hHeld => ?_)
        · exact ⟨c5, hm5⟩
        clear hK K
        try simp only [Act.put, List.setIfInBounds_toArray, List.set_cons_zero, List.set_cons_succ]
        refine wpAnyH_take (i := 8) (v := ?_) rfl (by kernel_rfl) (by kernel_rfl) (by kernel_rfl) (fun _ _ _ h => h) (Or.inl ⟨by rfl, ?_⟩) (by assumption) ?_
        rotate_left
        · (intro w' hSw; (try dsimp only at hSw); go_simp; try with_reducible rfl)
        try simp only [Act.put, List.setIfInBounds_toArray, List.set_cons_zero, List.set_cons_succ]
        refine wpAnyH_take (i := 9) (v := ?_) rfl (by kernel_rfl) (by kernel_rfl) (by kernel_rfl) (fun _ _ _ h => h) (Or.inl ⟨by rfl, ?_⟩) (by assumption) ?_
        rotate_left
        · (intro w' hSw; have LQ1 := LQ.out w' hSw.2; go_simp; try with_reducible rfl)
        try simp only [Act.put, List.setIfInBounds_toArray, List.set_cons_zero, List.set_cons_succ]
        refine wpAnyH_take (i := 10) (v := ?_) rfl (by kernel_rfl) (by kernel_rfl) (by kernel_rfl) (fun _ _ _ h => h) (Or.inl ⟨by rfl, ?_⟩) (by assumption) ?_
        rotate_left
        · (intro w' hSw; (try dsimp only at hSw); go_simp; try with_reducible rfl)
        try simp only [Act.put, List.setIfInBounds_toArray, List.set_cons_zero, List.set_cons_succ]
        refine wpAnyH_take (i := 11) (v := ?_) rfl (by kernel_rfl) (by kernel_rfl) (by kernel_rfl) (fun _ _ _ h => h) (Or.inl ⟨by rfl, ?_⟩) (by assumption) ?_
        rotate_left
        · (intro w' hSw; (try dsimp only at hSw); go_simp; try with_reducible rfl)
        try simp only [Act.put, List.setIfInBounds_toArray, List.set_cons_zero, List.set_cons_succ]
        refine wpAnyH_take (i := 12) (v := ?_) rfl (by kernel_rfl) (by kernel_rfl) (by kernel_rfl) (fun _ _ _ h => h) (Or.inl ⟨by rfl, ?_⟩) (by assumption) ?_
        rotate_left
        · (intro w' hSw; (try dsimp only at hSw); go_simp; try with_reducible rfl)
        try simp only [Act.put, List.setIfInBounds_toArray, List.set_cons_zero, List.set_cons_succ]
        refine wpAnyH_ready (rs := [13]) (by kernel_rfl) (by simp) ?_
        refine AllReadyH.cons rfl (fun K hK => ?_) AllReadyH.nil
        go_simp
        refine hK.out _ _ ?_ (fun hHeld => ?_)
        · exact ⟨(World.cell?_alloc_past _ _ _ (by omega)).trans c5, hm5.below ((Below.refl _ w5).alloc (Nat.le_refl _) _)⟩
        clear hK K
        try simp only [Act.put, List.setIfInBounds_toArray, List.set_cons_zero, List.set_cons_succ]
        refine wpAnyH_ready (rs := [14]) (by kernel_rfl) (by simp) ?_
        refine AllReadyH.cons rfl (fun K hK => ?_) AllReadyH.nil
        go_simp
        refine hK.out _ _ ?_ (fun hHeld => ?_)
        · exact ⟨(World.cell?_alloc_past _ _ _ (by omega)).trans c5, hm5.below ((Below.refl _ w5).alloc (Nat.le_refl _) _)⟩
        clear hK K
        try simp only [Act.put, List.setIfInBounds_toArray, List.set_cons_zero, List.set_cons_succ]
        refine wpAnyH_take (i := 15) (v := ?_) rfl (by kernel_rfl) (by kernel_rfl) (by kernel_rfl) (fun _ _ _ h => h) (Or.inl ⟨by rfl, ?_⟩) (by assumption) ?_
        rotate_left
        · (intro w' hSw; (try dsimp only at hSw); go_simp; try with_reducible rfl)
        try simp only [Act.put, List.setIfInBounds_toArray, List.set_cons_zero, List.set_cons_succ]
        refine wpAnyH_done (by kernel_rfl) ?_ _
        refine NoPanic.normal ?_
        clear hHeld
        cases okk2 with
        | false =>
          go_wp2
          go_ret3
          exact ⟨by rw [(HE3.out : resolveV s = _)]; rfl, have q := b5.alloc hs5 _; ⟨q.os, q.tape, q.output, q.size, q.block⟩⟩
        | true =>
          go_wp2
          go_quiet (exact (NU.out _).mono fun _ _ h => ⟨h.1, _, h.2⟩)
          go_wp2
          go_ret3
          exact ⟨by rw [(HE3.out : resolveV s = _)]; rfl, have q := b5.alloc hs5 _; ⟨q.os, q.tape, q.output, q.size, q.block⟩⟩
      · go_simp
        have nbA : (W4.drew.alloc (.cells #[.string ⟨#[]⟩, .string ⟨#[]⟩] 90)).heap[W4.heap.size]? = some (.cells #[.string ⟨#[]⟩, .string ⟨#[]⟩] 90 (0, 0)) := World.alloc_heap_new _ _
        have cA : (W4.alloc (.cells #[.string ⟨#[]⟩, .string ⟨#[]⟩] 90)).drew.cell? ⟨w3.heap.size, 0, none⟩ = some (.string (BA r1)) := (World.cell?_alloc_past _ _ _ (by omega)).trans c0
        have bA : Below W4.heap.size W4 (W4.alloc (.cells #[.string ⟨#[]⟩, .string ⟨#[]⟩] 90)).drew := drewBelow ((Below.refl _ W4).alloc (Nat.le_refl _) _)
        have hmA := hm4.below bA
        refine hK.out _ _ ?_ (fun hHeld2 => ?_)
        · exact ⟨cA, hmA⟩
        clear hK K hHeld
        have hHeld := hHeld2
        clear hHeld2
        try simp only [Act.put, List.setIfInBounds_toArray, List.set_cons_zero, List.set_cons_succ]
        refine wpAnyH_ready (rs := [7]) (by kernel_rfl) (by simp) ?_
        refine AllReadyH.cons rfl (fun K hK => ?_) AllReadyH.nil
        go_simp
        refine (LV.out _).mono ?_
        rintro e w5 ⟨rfl, hb5⟩
        have hb5 := fromDrew hb5
        have szA : (W4.alloc (.cells #[.string ⟨#[]⟩, .string ⟨#[]⟩] 90)).drew.heap.size = W4.heap.size + 1 := World.size_alloc _ _
        have hb6 : Below (W4.heap.size + 1) (W4.alloc (.cells #[.string ⟨#[]⟩, .string ⟨#[]⟩] 90)) w5 := by rw [← szA]; exact hb5
        have c5 : w5.cell? ⟨w3.heap.size, 0, none⟩ = some (.string (BA r1)) := (hb6.cell (p := ⟨w3.heap.size, 0, none⟩) (by show w3.heap.size < _; omega)).trans cA
        have hm5 : Nm w5 b := (hm4.below (bA)).below (w' := w5) (by rw [szA]; exact ⟨hb6.os, hb6.tape, hb6.output, hb6.size, hb6.block⟩)
        have nb5 : w5.heap[W4.heap.size]? = some (.cells #[.string ⟨#[]⟩, .string ⟨#[]⟩] 90 (0, 0)) := (hb6.block _ (by omega)).trans nbA
        have b5 : Below w.heap.size w w5 := (b4.trans (bA.mono hs4)).trans (⟨hb6.os, hb6.tape, hb6.output, hb6.size, fun k hk => hb6.block k (by omega)⟩ : Below w.heap.size (W4.alloc (.cells #[.string ⟨#[]⟩, .string ⟨#[]⟩] 90)).drew w5)
        obtain ⟨g0, g1, g2, g3⟩ := blk2 nb5
        have hs5 := b5.size
        have hs6 := hb6.size
        have nb6 := set_block nb5 (.string (BA xa)) (.string (BA xb))
        have T6 : Turns (fun k => k = W4.heap.size) w5 ((w5.setCell ⟨W4.heap.size, 0, none⟩ (.string (BA xa))).setCell ⟨W4.heap.size, 1, none⟩ (.string (BA xb))) := ⟨rfl, rfl, rfl, by simp, fun k hk hd => by rw [heap_setCell_other _ _ _ _ hd, heap_setCell_other _ _ _ _ hd]⟩
        have c6 := turns_cell T6 c5 (by show ¬ w3.heap.size = _; omega)
        have hm6 : Nm _ b := hm5.turns T6 (fun h => by have := hm4.lt; omega)
        have b6 := b5.trans (T6.below hs5 (fun k h => by omega))
        obtain ⟨k0, k1, k2, k3⟩ := blk2 nb6
        have hlt4 : w3.heap.size < W4.heap.size := by omega
        have hne4 : ¬ w3.heap.size = W4.heap.size := by omega
        have hne4' : ¬ W4.heap.size = w3.heap.size := by omega
        clear hHeld hb5 hb6 nb4 c0 bA hmA cA nbA
        refine hK.out _ _ ?_ (fun hHeld => ?_)
        · exact ⟨c5, hm5⟩
        clear hK K
        try simp only [Act.put, List.setIfInBounds_toArray, List.set_cons_zero, List.set_cons_succ]
        refine wpAnyH_take (i := 8) (v := ?_) rfl (by kernel_rfl) (by kernel_rfl) (by kernel_rfl) (fun _ _ _ h => h) (Or.inl ⟨by rfl, ?_⟩) (by assumption) ?_
        rotate_left
        · (intro w' hSw; (try dsimp only at hSw); go_simp; try with_reducible rfl)
        try simp only [Act.put, List.setIfInBounds_toArray, List.set_cons_zero, List.set_cons_succ]
        refine wpAnyH_take (i := 9) (v := ?_) rfl (by kernel_rfl) (by kernel_rfl) (by kernel_rfl) (fun _ _ _ h => h) (Or.inl ⟨by rfl, ?_⟩) (by assumption) ?_
        rotate_left
        · (intro w' hSw; have LQ1 := LQ.out w' hSw.2; go_simp; try with_reducible rfl)
        try simp only [Act.put, List.setIfInBounds_toArray, List.set_cons_zero, List.set_cons_succ]
        refine wpAnyH_take (i := 10) (v := ?_) rfl (by kernel_rfl) (by kernel_rfl) (by kernel_rfl) (fun _ _ _ h => h) (Or.inl ⟨by rfl, ?_⟩) (by assumption) ?_
        rotate_left
        · (intro w' hSw; (try dsimp only at hSw); go_simp; try with_reducible rfl)
        try simp only [Act.put, List.setIfInBounds_toArray, List.set_cons_zero, List.set_cons_succ]
        refine wpAnyH_take (i := 11) (v := ?_) rfl (by kernel_rfl) (by kernel_rfl) (by kernel_rfl) (fun _ _ _ h => h) (Or.inl ⟨by rfl, ?_⟩) (by assumption) ?_
        rotate_left
        · (intro w' hSw; (try dsimp only at hSw); go_simp; try with_reducible rfl)
        try simp only [Act.put, List.setIfInBounds_toArray, List.set_cons_zero, List.set_cons_succ]
        refine wpAnyH_take (i := 12) (v := ?_) rfl (by kernel_rfl) (by kernel_rfl) (by kernel_rfl) (fun _ _ _ h => h) (Or.inl ⟨by rfl, ?_⟩) (by assumption) ?_
        rotate_left
        · (intro w' hSw; (try dsimp only at hSw); go_simp; try with_reducible rfl)
        try simp only [Act.put, List.setIfInBounds_toArray, List.set_cons_zero, List.set_cons_succ]
        refine wpAnyH_ready (rs := [14]) (by kernel_rfl) (by simp) ?_
        refine AllReadyH.cons rfl (fun K hK => ?_) AllReadyH.nil
        go_simp
        refine hK.out _ _ ?_ (fun hHeld => ?_)
        · exact ⟨c6, hm6⟩
        clear hK K
        try simp only [Act.put, List.setIfInBounds_toArray, List.set_cons_zero, List.set_cons_succ]
        refine wpAnyH_take (i := 15) (v := ?_) rfl (by kernel_rfl) (by kernel_rfl) (by kernel_rfl) (fun _ _ _ h => h) (Or.inl ⟨by rfl, ?_⟩) (by assumption) ?_
        rotate_left
        · (intro w' hSw; (try dsimp only at hSw); go_simp; try with_reducible rfl)
        try simp only [Act.put, List.setIfInBounds_toArray, List.set_cons_zero, List.set_cons_succ]
        refine wpAnyH_done (by kernel_rfl) ?_ _
        refine NoPanic.normal ?_
        clear hHeld
        cases okk2 with
        | false =>
          go_wp2
          go_ret3
          exact ⟨by rw [(HE3.out : resolveV s = _)]; rfl, have q := b6; ⟨q.os, q.tape, q.output, q.size, q.block⟩⟩
        | true =>
          go_wp2
          go_quiet (exact (NU.out _).mono fun _ _ h => ⟨h.1, _, h.2⟩)
          go_wp2
          go_ret3
          exact ⟨by rw [(HE3.out : resolveV s = _)]; rfl, have q := b6; ⟨q.os, q.tape, q.output, q.size, q.block⟩⟩
end Go.Proofs.YtnjomfmdogkhgaaGreatDoor.nam
end

section
/- names.Long: the long name of a value's short one. -/
set_option linter.unusedVariables false
set_option linter.unusedSimpArgs false
namespace Go.Proofs.YtnjomfmdogkhgaaGreatDoor.nam
open Go.RowKit lin

def longL (n : Int) (v : List UInt8) : List UInt8 × Bool :=
  match lookL (kindL n, looseL v) with
  | none => ([], false)
  | some r => if r.2.1 = v then (r.2.2, true) else ([], false)
theorem long0 {n : Int} {v : List UInt8} (h : lookL (kindL n, looseL v) = none) : longL n v = ([], false) := by unfold longL; rw [h]
theorem long1 {n : Int} {v : List UInt8} {r : R3} (h : lookL (kindL n, looseL v) = some r) (h2 : r.2.1 = v) : longL n v = (r.2.2, true) := by unfold longL; simp only [h]; rw [if_pos h2]
theorem long2 {n : Int} {v : List UInt8} {r : R3} (h : lookL (kindL n, looseL v) = some r) (h2 : ¬ r.2.1 = v) : longL n v = ([], false) := by unfold longL; simp only [h]; rw [if_neg h2]
theorem kindL_len (n : Int) : (kindL n).length ≤ 2 := by unfold kindL; (repeat' split) <;> simp
theorem beqT2 {k L : List UInt8} (h : k = L) : ((BA k).toList == (BA L).toList) = true := by rw [h]; exact beq_self_eq_true _
theorem beqF2 {k L : List UInt8} (h : ¬ k = L) : ((BA k).toList == (BA L).toList) = false := by rw [beq_eq_false_iff_ne, Lib.toList_data, Lib.toList_data, BA_data, BA_data]; exact h

end Go.Proofs.YtnjomfmdogkhgaaGreatDoor.nam
end

section
/- props.foldingsOf. -/
set_option linter.unusedVariables false
set_option linter.unusedSimpArgs false
namespace Go.Proofs.YtnjomfmdogkhgaaGreatDoor.prp
open Go.RowKit Go.Maps lin
open Go.Proofs.YtnjomfmdogkhgaaGreatDoor.nam (beqT2 beqF2)

theorem LMap.isMap {w : World} {b n : Nat} {g : Int → Option (List Int)} (h : LMap w b n g) : ∃ es cl, w.heap[b]? = some (.map es cl) := by
  obtain ⟨f, ⟨D, ⟨es, cl, hb, _⟩, _⟩, _⟩ := h
  exact ⟨es, cl, hb⟩
theorem pts_small (s : ByteArray) (h : s.size ≤ 100) : (pts (wordsB s)).length ≤ 101 := by
  have h1 := pts_len (wordsB s)
  have h2 := wds_len s.data.toList []
  rw [size_list] at h2
  unfold wordsB at *
  rw [List.length_map] at h1
  omega

set_option maxHeartbeats 2000000 in
set_option maxRecDepth 1000000 in
theorem foldings_any (v : Value) (l : List RL) (st : List UInt8) (w : World) (E : Env w) (h : View w v (l.map recOf)) (h0 : 0 < l.length) (hn : l.length ≤ 1000) (hf : ∀ x ∈ l, fitB x = true) (hq : ∀ x ∈ l, ∀ y ∈ cp x 1, 0 ≤ y ∧ y ≤ 1114111) :
    Calls Tryz.prog 45 #[v, .string (BA st)] w fun e w' => ∃ b, e = .returned (.map (some b)) ∧ LMap w' b 2000000 (lastG (foldVal st) l) ∧ Below w.heap.size w w' := by
  obtain ⟨rb, ro, rc, rfl, hrec⟩ := view_recs h h0
  have HREC : Hid (∀ (i : Nat) (r : RL), l[i]? = some r → ∃ g o2 c2, RecM w rb (ro + i * 3) r g o2 c2) := hrec
  have HE : Hid (Env w) := E
  have HFT : Hid (∀ (i : Nat) (r : RL), l[i]? = some r → fitB r = true) := fun i r hi => hf r (List.mem_of_getElem? hi)
  have HNX : Hid (∀ (i : Nat) (r : RL), l[i]? = some r → l.take (i + 1) = l.take i ++ [r]) := fun i r hi => by rw [List.take_add_one, hi]; rfl
  have HQ : Hid (∀ (i : Nat) (r : RL), l[i]? = some r → ∀ y ∈ cp r 1, 0 ≤ y ∧ y ≤ 1114111) := fun i r hi => hq r (List.mem_of_getElem? hi)
  clear h hrec hf hq E
  have hmm := @run_makeMap Tryz.prog
  go_enter Tryz.func45, Tryz.ntmps45
  go_wp2
  clear hmm
  go_loopw [13] (fun i wr => ∃ k : Nat, k ≤ l.length ∧ i = .int .i64 k ∧ Hid (LMap wr w.heap.size (1001 * k) (lastG (foldVal st) (l.take k))) ∧ Below w.heap.size w wr) (fun i _ => l.length - (RowKit.intOf i).toNat)
  case atStart => exact ⟨0, Nat.zero_le _, rfl, LMap.made w, (Below.refl _ w).alloc (Nat.le_refl _) _⟩
  case round =>
    obtain ⟨k, hk, rfl, HL, hbel⟩ := hrel
    by_cases hlt : k < l.length
    · have hlt' : (k : Int) < (l.length : Int) := by omega
      obtain ⟨x, hx⟩ : ∃ x, l[k]? = some x := ⟨_, List.getElem?_eq_getElem hlt⟩
      obtain ⟨fg, fo, fc, hrm0⟩ := HREC.out k x hx
      have hrm := hrm0.below hbel
      obtain ⟨f1, f2, f3, f4, f5, f6⟩ := fit_spec (HFT.out k x hx)
      obtain ⟨f, hfx⟩ : ∃ f, x.2.2[0]? = some f := ⟨_, List.getElem?_eq_getElem (by omega)⟩
      have hf0 : x.2.2.getD 0 [] = f := by rw [List.getD_eq_getElem?_getD, hfx]; rfl
      have HTK := HNX.out k x hx
      have HEND : Hid (lastG (foldVal st) (l.take (k + 1)) = fun r => (foldVal st x r).or (lastG (foldVal st) (l.take k) r)) := by rw [Hid, HTK, lastG_snoc]
      have q0 := hrm.lo
      have q1 := hrm.hi
      have q2 := hrm.fv
      have q3 := hrm.fs 0 f hfx
      rw [Nat.add_zero] at q3
      have hfgl : fg < wr.heap.size := World.block_lt_of_cell? wr ⟨fg, fo, none⟩ q3
      have hbs := hbel.size
      have f5' : (1 : Int) ≤ (x.2.2.length : Int) := by omega
      have f5'' : (0 : Int) < (x.2.2.length : Int) := by omega
      by_cases hsk : f = st ∧ 2 ≤ x.2.2.length
      · obtain ⟨hst, h2⟩ := hsk
        have t1 := beqT2 hst
        obtain ⟨f', hfx'⟩ : ∃ f', x.2.2[1]? = some f' := ⟨_, List.getElem?_eq_getElem (by omega)⟩
        obtain ⟨f7, f8⟩ := f6 f' (List.mem_of_getElem? hfx')
        have hcp : cp x 1 = pts (wordsB (BA f')) := by unfold cp; rw [List.getD_eq_getElem?_getD, hfx']; rfl
        have HCQ : Hid (∀ y ∈ pts (wordsB (BA f')), 0 ≤ y ∧ y ≤ 1114111) := by rw [← hcp]; exact HQ.out k x hx
        have HPS := pts_small (BA f') f7
        have HVAL : Hid (∀ r, x.1 ≤ r → r ≤ x.2.1 → foldVal st x r = some ((pts (wordsB (BA f'))).map (· + (r - x.1)))) := fun r h1 h3 => by
          unfold foldVal inR
          rw [decide_eq_true h1, decide_eq_true h3, if_pos ⟨by rw [hf0]; exact hst, h2, rfl⟩, hcp]
        have HOUT : Hid (∀ r, ¬ (x.1 ≤ r ∧ r ≤ x.2.1) → foldVal st x r = none) := fun r h1 => by
          unfold foldVal inR
          rw [if_neg]
          simp only [Bool.and_eq_true, decide_eq_true_eq]
          exact fun h => h1 h.2.2
        have q4 := hrm.fs 1 f' hfx'
        have h2' : ¬ (x.2.2.length : Int) < 2 := by omega
        have h2'' : (1 : Int) < (x.2.2.length : Int) := by omega
        have HCO : Hid (∀ W, Env W → Calls Tryz.prog 71 #[.string (BA f')] W fun e w' => ∃ v, e = .returned v ∧ IOwn w' W.heap.size v (pts (wordsB (BA f'))) ∧ Below W.heap.size W w') := fun W EW => code_any (BA f') W EW (by omega) f8
        have HG0 : Hid (lastG (foldVal st) (l.take k) = fun r => if x.1 ≤ r ∧ r < x.1 then (foldVal st x r).or (lastG (foldVal st) (l.take k) r) else lastG (foldVal st) (l.take k) r) := by
          unfold Hid; funext r; rw [if_neg (by omega)]
        clear HTK hx hfx hfx' f6 f7 f8 hcp hrm hrm0 hst hf0
        generalize lastG (foldVal st) (l.take k) = G at *
        generalize hL3 : x.2.2.length = n3 at *
        generalize pts (wordsB (BA f')) = XS at *
        obtain ⟨lo, hi, fs⟩ := x
        simp only at *
        have CO := HCO.out (wr.alloc (.cells #[.int .i64 lo, .int .i64 hi, .slice (some ⟨fg, fo, none⟩) n3 fc] 73)) ((HE.out.below hbel).below ((Below.refl _ wr).alloc (Nat.le_refl _) _))
        go_wp2_with fail
        refine CO.mono ?_
        rintro e w2 ⟨cv, rfl, ho, hb2⟩
        clear CO
        have W1b := (Below.refl wr.heap.size wr).alloc (Nat.le_refl _) (.cells #[.int .i64 lo, .int .i64 hi, .slice (some ⟨fg, fo, none⟩) n3 fc] 73)
        have nb1 : (wr.alloc (.cells #[.int .i64 lo, .int .i64 hi, .slice (some ⟨fg, fo, none⟩) n3 fc] 73)).heap[wr.heap.size]? = some (.cells #[.int .i64 lo, .int .i64 hi, .slice (some ⟨fg, fo, none⟩) n3 fc] 73 (0, 0)) := World.alloc_heap_new _ _
        have hlw : w.heap.size < wr.heap.size := HL.out.lt
        have nb2 : w2.heap[wr.heap.size]? = some (.cells #[.int .i64 lo, .int .i64 hi, .slice (some ⟨fg, fo, none⟩) n3 fc] 73 (0, 0)) := (hb2.block _ (Array.getElem?_eq_some_iff.1 nb1).1).trans nb1
        have hlt1 : wr.heap.size < w2.heap.size := (Array.getElem?_eq_some_iff.1 nb2).1
        have L1 := (HL.out.below W1b).below hb2
        have bw2 := (hbel.trans (W1b.mono hbs)).trans (hb2.mono (hbel.trans (W1b.mono hbs)).size)
        have hw2s := bw2.size
        obtain ⟨va, vc, rfl⟩ := own_slice ho
        have HIV : Hid (IV w2 (.slice va XS.length vc) XS) := ho.iv
        have HCELL : Hid (∀ W, Turns (fun k => k = w.heap.size) w2 W → W.cell? ⟨wr.heap.size, 0, none⟩ = some (.int .i64 lo) ∧ W.cell? ⟨wr.heap.size, 1, none⟩ = some (.int .i64 hi) ∧ Below w.heap.size w W) := fun W t => by
          have h := (t.block _ hlt1 (by omega)).trans nb2
          exact ⟨cell_of_row W _ 0 _ _ _ h, cell_of_row W _ 1 _ _ _ h, bw2.trans (t.below hw2s (fun k d => by omega))⟩
        obtain ⟨y0, y1, _⟩ := HCELL.out w2 (Turns.refl _ _)
        clear W1b nb1 nb2 hb2 q0 q1 q2 q3 q4 HL hbel ho
        generalize wr.heap.size = RB at *
        rw [HG0.out] at L1
        have L2 : Hid (LMap w2 w.heap.size (1001 * k + (lo - lo).toNat) (fun r => if lo ≤ r ∧ r < lo then (foldVal st (lo, hi, fs) r).or (G r) else G r)) := by unfold Hid; rw [Int.sub_self]; exact L1
        clear L1 HG0
        go_wp2
        clear y0 y1
        go_loopw [9] (fun u wz => ∃ p : Int, lo ≤ p ∧ p ≤ hi + 1 ∧ u = .int .i64 p ∧ Hid (LMap wz w.heap.size (1001 * k + (p - lo).toNat) (fun r => if lo ≤ r ∧ r < p then (foldVal st (lo, hi, fs) r).or (G r) else G r)) ∧ Hid (Turns (fun k => k = w.heap.size) w2 wz) ∧ Hid (IV wz (.slice va XS.length vc) XS)) (fun u _ => (hi + 1 - RowKit.intOf u).toNat)
        case atStart => exact ⟨lo, by omega, by omega, rfl, L2, Turns.refl _ _, HIV⟩
        case round =>
          clear L2 HIV
          obtain ⟨p, hp1, hp2, rfl, HM, HT, HV⟩ := hrel
          obtain ⟨c0, c1, hbw⟩ := HCELL.out _ HT.out
          have hwz := hbw.size
          by_cases hpi : p ≤ hi
          · have AL := along_any (.slice va XS.length vc) XS (p - lo) wr HV.out (by omega) ⟨by omega, by omega⟩ HCQ.out
            have hv := HVAL.out p hp1 hpi
            have hup := updL_in (foldVal st) G (lo, hi, fs) p (XS.map (· + (p - lo))) ⟨hp1, hpi⟩ hv
            simp only at hup
            have wp1 : IntKind.i64.wrap (p + 1) = p + 1 := by rw [IntKind.wrap_i64]; omega
            have wp2 : IntKind.i64.wrap (p - lo) = p - lo := by rw [IntKind.wrap_i64]; omega
            go_wp2_with fail
            refine AL.mono ?_
            rintro e w3 ⟨cv, rfl, ho, hb3⟩
            clear AL
            have ha := ho.iv
            obtain ⟨va', vc', rfl⟩ := own_slice ho
            obtain ⟨w4, hrun, hM4, hg4⟩ := (HM.out.below hb3).put (by unfold maxLen; omega) (x := p) ⟨by omega, by omega⟩ ha
            rw [hup] at hM4
            have t34 : Turns (fun k => k = w.heap.size) w3 w4 := .of_grown hg4 (fun k e => by cases e; rfl)
            have HM2 : Hid (LMap w4 w.heap.size (1001 * k + (p + 1 - lo).toNat) (fun r => if lo ≤ r ∧ r < p + 1 then (foldVal st (lo, hi, fs) r).or (G r) else G r)) := hM4.mono (by omega)
            have HT2 : Hid (Turns (fun k => k = w.heap.size) w2 w4) := (HT.out.trans (.of_below hb3)).trans t34
            have HV2 : Hid (IV w4 (.slice va XS.length vc) XS) := (HV.out.below hb3).turns t34 (fun k d => by subst d; exact (HM.out.below hb3).isMap)
            clear HM HT HV hM4 hg4 ho hb3 hup hv t34 ha
            generalize (XS.map (· + (p - lo))).length = nn at *
            go_wp2
            exact ⟨⟨p + 1, by omega, by omega, rfl, HM2, HT2, HV2⟩, by simp [intOf]; omega⟩
          · obtain rfl : p = hi + 1 := by omega
            have HM2 : Hid (LMap wr w.heap.size (1001 * (k + 1)) (lastG (foldVal st) (l.take (k + 1)))) := by
              rw [Hid, HEND.out]
              have e : (fun r => if lo ≤ r ∧ r < hi + 1 then (foldVal st (lo, hi, fs) r).or (G r) else G r) = fun r => (foldVal st (lo, hi, fs) r).or (G r) := by
                funext r
                by_cases h : lo ≤ r ∧ r < hi + 1
                · rw [if_pos h]
                · rw [if_neg h, HOUT.out r (fun h2 => h ⟨h2.1, by omega⟩)]; rfl
              rw [← e]
              exact HM.out.mono (by omega)
            clear HM HT HV
            go_wp2
            exact ⟨⟨k + 1, by omega, by go_num, HM2, hbw⟩, by simp [intOf]; omega⟩
      · have HM2 : Hid (∀ o, LMap (wr.alloc o) w.heap.size (1001 * (k + 1)) (lastG (foldVal st) (l.take (k + 1)))) := fun o => by
          rw [HEND.out]
          have e : (fun r => (foldVal st x r).or (lastG (foldVal st) (l.take k) r)) = lastG (foldVal st) (l.take k) := by
            funext r
            rw [show foldVal st x r = none from by unfold foldVal; rw [if_neg]; intro h; exact hsk ⟨by rw [← hf0]; exact h.1, h.2.1⟩]
            rfl
          rw [e]
          exact (HL.out.below ((Below.refl _ wr).alloc (Nat.le_refl _) o)).mono (by omega)
        clear HTK hx hfx f6 hrm hrm0 HL HEND hf0
        by_cases hst : f = st
        · have t1 := beqT2 hst
          have h2' : (x.2.2.length : Int) < 2 := by have : ¬ 2 ≤ x.2.2.length := fun h => hsk ⟨hst, h⟩; omega
          generalize hL3 : x.2.2.length = n3 at *
          obtain ⟨lo, hi, fs⟩ := x
          simp only at *
          clear hst hsk
          go_wp2
          exact ⟨⟨k + 1, by omega, by go_num, HM2.out _, hbel.alloc hbs _⟩, by simp [intOf]; omega⟩
        · have t1 := beqF2 hst
          generalize hL3 : x.2.2.length = n3 at *
          obtain ⟨lo, hi, fs⟩ := x
          simp only at *
          clear hst hsk
          go_wp2
          exact ⟨⟨k + 1, by omega, by go_num, HM2.out _, hbel.alloc hbs _⟩, by simp [intOf]; omega⟩
    · have hge : ¬ (k : Int) < (l.length : Int) := by omega
      have HF : Hid (LMap wr w.heap.size 2000000 (lastG (foldVal st) l)) := by
        have h := HL.out
        rw [List.take_of_length_le (by omega)] at h
        exact h.mono (by omega)
      clear HL
      go_wp2
      go_ret
      exact ⟨_, rfl, HF.out, hbel⟩
end Go.Proofs.YtnjomfmdogkhgaaGreatDoor.prp
end

section
/- Plain mathematics of sets of code points (no program): lists of ranges, what they mean, sets, their edges, their sizes. -/
set_option linter.unusedVariables false
set_option linter.unusedSimpArgs false
namespace Go.Proofs.YtnjomfmdogkhgaaGreatDoor.rng

abbrev R := Int × Int
def code (x : Int) : Bool := decide (0 ≤ x) && decide (x ≤ 1114111)
def inP (p : R) (x : Int) : Bool := decide (p.1 ≤ x) && decide (x ≤ p.2)
/-- Is x in what the list means. -/
def has (l : List R) (x : Int) : Bool := code x && l.any (fun p => inP p x)
/-- Rising from lo on, apart, of code points alone. -/
def CanF : Int → List R → Prop
  | _, [] => True
  | lo, p :: r => lo ≤ p.1 ∧ p.1 ≤ p.2 ∧ p.2 ≤ 1114111 ∧ CanF (p.2 + 2) r
def canB : Int → List R → Bool
  | _, [] => true
  | lo, p :: r => decide (lo ≤ p.1 ∧ p.1 ≤ p.2 ∧ p.2 ≤ 1114111) && canB (p.2 + 2) r
/-- Where the next range may begin. -/
def nxt : Int → List R → Int
  | lo, [] => lo
  | _, p :: r => nxt (p.2 + 2) r
/-- r is the set of all code points of which f holds. -/
def IsSet (r : List R) (f : Int → Bool) : Prop := CanF 0 r ∧ ∀ x, code x = true → has r x = f x

theorem code_iff (x : Int) : code x = true ↔ 0 ≤ x ∧ x ≤ 1114111 := by simp [code]
theorem inP_iff (p : R) (x : Int) : inP p x = true ↔ p.1 ≤ x ∧ x ≤ p.2 := by simp [inP]
theorem has_nil (x : Int) : has [] x = false := by simp [has]
theorem has_cons (p : R) (l : List R) (x : Int) : has (p :: l) x = (code x && inP p x || has l x) := by
  simp only [has, List.any_cons]; cases code x <;> simp
theorem has_append (l m : List R) (x : Int) : has (l ++ m) x = (has l x || has m x) := by
  induction l with
  | nil => simp [has_nil]
  | cons p l ih => rw [List.cons_append, has_cons, has_cons, ih, Bool.or_assoc]
theorem has_code {l : List R} {x : Int} (h : has l x = true) : code x = true := by
  unfold has at h; cases hc : code x
  · rw [hc] at h; simp at h
  · rfl
theorem has_iff (l : List R) (x : Int) : has l x = true ↔ code x = true ∧ ∃ p ∈ l, p.1 ≤ x ∧ x ≤ p.2 := by
  unfold has; rw [Bool.and_eq_true, List.any_eq_true]; simp only [inP_iff]
theorem canB_iff : ∀ (lo : Int) (l : List R), canB lo l = true ↔ CanF lo l
  | _, [] => by simp [canB, CanF]
  | lo, p :: r => by rw [canB, CanF, Bool.and_eq_true, canB_iff, decide_eq_true_eq, and_assoc, and_assoc]
theorem can_lo {l : List R} {lo x : Int} (h : CanF lo l) (hx : has l x = true) : lo ≤ x := by
  induction l generalizing lo with
  | nil => rw [has_nil] at hx; cases hx
  | cons p r ih =>
    obtain ⟨h1, h2, h3, h4⟩ := h
    rw [has_cons, Bool.or_eq_true, Bool.and_eq_true, inP_iff] at hx
    rcases hx with hx | hx
    · omega
    · have := ih h4 hx; omega
theorem can_mono {l : List R} {lo lo' : Int} (h : CanF lo l) (hl : lo' ≤ lo) : CanF lo' l := by
  cases l with
  | nil => trivial
  | cons p r => obtain ⟨h1, h2⟩ := h; exact ⟨by omega, h2⟩
theorem can_has {p : R} {r : List R} {lo x : Int} (h0 : 0 ≤ lo) (h : CanF lo (p :: r)) : has (p :: r) x = (inP p x || has r x) := by
  obtain ⟨h1, h2, h3, h4⟩ := h
  rw [has_cons]
  cases hi : inP p x
  · simp
  · rw [inP_iff] at hi
    rw [(code_iff x).2 (by omega)]; rfl
theorem can_ext : ∀ (r s : List R) (lo : Int), 0 ≤ lo → CanF lo r → CanF lo s → (∀ x, has r x = has s x) → r = s
  | [], [], _, _, _, _, _ => rfl
  | [], q :: s, lo, h0, _, hs, h => by
    have := h q.1; rw [can_has h0 hs, has_nil] at this
    obtain ⟨h1, h2, _⟩ := hs
    rw [(inP_iff q q.1).2 (by omega)] at this; cases this
  | p :: r, [], lo, h0, hr, _, h => by
    have := h p.1; rw [can_has h0 hr, has_nil] at this
    obtain ⟨h1, h2, _⟩ := hr
    rw [(inP_iff p p.1).2 (by omega)] at this; cases this
  | p :: r, q :: s, lo, h0, hr, hs, h => by
    have h' : ∀ x, (inP p x || has r x) = (inP q x || has s x) := fun x => by rw [← can_has h0 hr, ← can_has h0 hs, h x]
    obtain ⟨a1, a2, a3, a4⟩ := hr
    obtain ⟨b1, b2, b3, b4⟩ := hs
    have e1 : q.1 ≤ p.1 := by
      have := h' p.1; rw [(inP_iff p p.1).2 (by omega), Bool.true_or] at this
      have := (Bool.or_eq_true _ _ ▸ this.symm : inP q p.1 = true ∨ has s p.1 = true)
      rcases this with t | t
      · exact ((inP_iff _ _).1 t).1
      · have := can_lo b4 t; omega
    have e2 : p.1 ≤ q.1 := by
      have := h' q.1; rw [(inP_iff q q.1).2 (by omega), Bool.true_or] at this
      have := (Bool.or_eq_true _ _ ▸ this : inP p q.1 = true ∨ has r q.1 = true)
      rcases this with t | t
      · exact ((inP_iff _ _).1 t).1
      · have := can_lo a4 t; omega
    have e3 : ¬ p.2 < q.2 := fun hlt => by
      have := h' (p.2 + 1); rw [(inP_iff q (p.2 + 1)).2 (by omega), Bool.true_or] at this
      have := (Bool.or_eq_true _ _ ▸ this : inP p (p.2 + 1) = true ∨ has r (p.2 + 1) = true)
      rcases this with t | t
      · have := ((inP_iff _ _).1 t).2; omega
      · have := can_lo a4 t; omega
    have e4 : ¬ q.2 < p.2 := fun hlt => by
      have := h' (q.2 + 1); rw [(inP_iff p (q.2 + 1)).2 (by omega), Bool.true_or] at this
      have := (Bool.or_eq_true _ _ ▸ this.symm : inP q (q.2 + 1) = true ∨ has s (q.2 + 1) = true)
      rcases this with t | t
      · have := ((inP_iff _ _).1 t).2; omega
      · have := can_lo b4 t; omega
    have e : p = q := Prod.ext (by omega) (by omega)
    subst e
    have : r = s := can_ext r s (p.2 + 2) (by omega) a4 b4 (fun x => by
      have hx := h' x
      by_cases hle : x ≤ p.2 + 1
      · have f1 : has r x = false := by cases t : has r x; rfl; have := can_lo a4 t; omega
        have f2 : has s x = false := by cases t : has s x; rfl; have := can_lo b4 t; omega
        rw [f1, f2]
      · have f1 : inP p x = false := by cases t : inP p x; rfl; have := ((inP_iff _ _).1 t).2; omega
        rw [f1, Bool.false_or, Bool.false_or] at hx; exact hx)
    rw [this]
/-- Two sets of which the same holds are one. -/
theorem IsSet.eq {r s : List R} {f g : Int → Bool} (hr : IsSet r f) (hs : IsSet s g) (h : ∀ x, code x = true → f x = g x) : r = s := by
  refine can_ext r s 0 (Int.le_refl _) hr.1 hs.1 (fun x => ?_)
  cases hc : code x
  · simp [has, hc]
  · rw [hr.2 x hc, hs.2 x hc, h x hc]
theorem IsSet.congr {r : List R} {f g : Int → Bool} (h : IsSet r f) (e : ∀ x, code x = true → f x = g x) : IsSet r g := ⟨h.1, fun x hc => (h.2 x hc).trans (e x hc)⟩
theorem IsSet.hasEq {r : List R} {f : Int → Bool} (h : IsSet r f) (x : Int) : has r x = (code x && f x) := by
  cases hc : code x
  · simp [has, hc]
  · rw [h.2 x hc]; rfl
theorem IsSet.self {r : List R} (h : CanF 0 r) : IsSet r (has r) := ⟨h, fun _ _ => rfl⟩

theorem can_snoc : ∀ (l : List R) (lo : Int) (q : R), CanF lo (l ++ [q]) ↔ CanF lo l ∧ nxt lo l ≤ q.1 ∧ q.1 ≤ q.2 ∧ q.2 ≤ 1114111
  | [], lo, q => by simp [CanF, nxt]
  | p :: l, lo, q => by rw [List.cons_append, CanF, CanF, nxt, can_snoc l]; constructor <;> (rintro ⟨a, b⟩; simp_all)
theorem nxt_snoc : ∀ (l : List R) (lo : Int) (q : R), nxt lo (l ++ [q]) = q.2 + 2
  | [], lo, q => rfl
  | p :: l, lo, q => by rw [List.cons_append, nxt, nxt_snoc l]
theorem nxt_ge : ∀ (l : List R) (lo : Int), CanF lo l → lo ≤ nxt lo l
  | [], lo, _ => Int.le_refl _
  | p :: l, lo, h => by obtain ⟨h1, h2, h3, h4⟩ := h; have := nxt_ge l _ h4; rw [nxt]; omega
theorem can_length : ∀ (l : List R) (lo : Int), CanF lo l → lo + 2 * l.length ≤ nxt lo l
  | [], lo, _ => by simp [nxt]
  | p :: l, lo, h => by obtain ⟨h1, h2, h3, h4⟩ := h; have := can_length l _ h4; rw [nxt]; simp; omega
theorem nxt_le : ∀ (l : List R) (lo : Int), lo ≤ 1114113 → CanF lo l → nxt lo l ≤ 1114113
  | [], lo, h0, _ => h0
  | p :: l, lo, h0, h => by obtain ⟨h1, h2, h3, h4⟩ := h; rw [nxt]; exact nxt_le l _ (by omega) h4
/-- A set has so many ranges at most. -/
theorem can_len {l : List R} (h : CanF 0 l) : l.length ≤ 557056 := by
  have h1 := can_length l 0 h; have h2 := nxt_le l 0 (by omega) h; omega
theorem can_hi {l : List R} {lo x : Int} (h : CanF lo l) (hx : has l x = true) : x + 2 ≤ nxt lo l := by
  induction l generalizing lo with
  | nil => rw [has_nil] at hx; cases hx
  | cons p r ih =>
    obtain ⟨h1, h2, h3, h4⟩ := h
    rw [has_cons, Bool.or_eq_true, Bool.and_eq_true, inP_iff] at hx
    rw [nxt]
    rcases hx with hx | hx
    · have := nxt_ge r _ h4; omega
    · exact ih h4 hx
theorem can_mem {l : List R} {lo : Int} (h0 : 0 ≤ lo) (h : CanF lo l) : ∀ p ∈ l, 0 ≤ p.1 ∧ p.1 ≤ p.2 ∧ p.2 ≤ 1114111 := by
  induction l generalizing lo with
  | nil => intro p hp; cases hp
  | cons q r ih =>
    obtain ⟨h1, h2, h3, h4⟩ := h
    intro p hp
    rcases List.mem_cons.1 hp with rfl | hp
    · omega
    · exact ih (by omega) h4 p hp

/-- What a range is cut to, and which ranges mean something. -/
def clip (p : R) : R := (max p.1 0, min p.2 1114111)
def usable (l : List R) : List R := (l.map clip).filter fun p => decide (p.1 ≤ p.2)
theorem has_usable (l : List R) (x : Int) : has (usable l) x = has l x := by
  induction l with
  | nil => rfl
  | cons p l ih =>
    unfold usable at ih ⊢
    rw [List.map_cons, List.filter_cons]
    split
    · rw [has_cons, has_cons, ih]
      congr 1
      rw [Bool.eq_iff_iff]; simp only [Bool.and_eq_true, code_iff, inP_iff, clip]; omega
    · rename_i hn
      rw [has_cons, ih]
      have : (code x && inP p x) = false := by
        rw [Bool.eq_false_iff]; intro h; simp only [Bool.and_eq_true, code_iff, inP_iff] at h
        have hn' : ¬ max p.1 0 ≤ min p.2 1114111 := fun e => hn (decide_eq_true e)
        omega
      rw [this, Bool.false_or]
theorem usable_mem {l : List R} : ∀ p ∈ usable l, 0 ≤ p.1 ∧ p.1 ≤ p.2 ∧ p.2 ≤ 1114111 := by
  intro p hp
  unfold usable at hp
  rw [List.mem_filter, List.mem_map] at hp
  obtain ⟨⟨q, _, rfl⟩, h⟩ := hp
  have h' : max q.1 0 ≤ min q.2 1114111 := of_decide_eq_true h
  simp only [clip]; omega
theorem usable_length (l : List R) : (usable l).length ≤ l.length := by
  unfold usable; have := List.length_filter_le (fun p : R => decide (p.1 ≤ p.2)) (l.map clip); simpa using this
theorem usable_snoc (l : List R) (p : R) : usable (l ++ [p]) = usable l ++ (if (clip p).1 ≤ (clip p).2 then [clip p] else []) := by
  unfold usable; rw [List.map_append, List.filter_append, List.map_singleton, List.filter_cons, List.filter_nil]; simp
theorem has_perm {l m : List R} (h : l.Perm m) (x : Int) : has l x = has m x := by
  rw [Bool.eq_iff_iff, has_iff, has_iff]; simp only [h.mem_iff]

/-- How Make goes on: p: what was gone through; out: its set; rest: what is left. -/
structure MkInv (p out rest : List R) : Prop where
  can : CanF 0 out
  same : ∀ x, has out x = has p x
  last : ∀ i q, out = i ++ [q] → ∀ y ∈ rest, q.1 ≤ y.1
  good : ∀ y ∈ rest, 0 ≤ y.1 ∧ y.1 ≤ y.2 ∧ y.2 ≤ 1114111
  rise : rest.Pairwise fun a b => a.1 ≤ b.1
theorem MkInv.start {s : List R} (h : s.Pairwise fun a b => a.1 ≤ b.1) (hg : ∀ y ∈ s, 0 ≤ y.1 ∧ y.1 ≤ y.2 ∧ y.2 ≤ 1114111) : MkInv [] [] s :=
  ⟨trivial, fun _ => rfl, fun i q h => by simp at h, hg, h⟩
theorem snoc_inj {i j : List R} {p q : R} (h : i ++ [p] = j ++ [q]) : i = j ∧ p = q := by
  have := List.append_inj' h rfl
  exact ⟨this.1, by simpa using this.2⟩
theorem MkInv.new {p out rest : List R} {x : R} (h : MkInv p out (x :: rest)) (hn : ∀ i q, out = i ++ [q] → q.2 + 1 < x.1) : MkInv (p ++ [x]) (out ++ [x]) rest := by
  have hx := h.good x (by simp)
  refine ⟨(can_snoc _ _ _).2 ⟨h.can, ?_, hx.2.1, hx.2.2⟩, fun y => by rw [has_append, has_append, h.same], fun i q e y hy => ?_, fun y hy => h.good y (by simp [hy]), (List.pairwise_cons.1 h.rise).2⟩
  · rcases List.eq_nil_or_concat out with rfl | ⟨i, q, rfl⟩
    · simp [nxt]; exact hx.1
    · rw [List.concat_eq_append] at hn ⊢; rw [nxt_snoc]; have := hn i q rfl; omega
  · obtain ⟨_, rfl⟩ := snoc_inj e
    exact (List.pairwise_cons.1 h.rise).1 y hy
theorem MkInv.join {p i rest : List R} {q x : R} (h : MkInv p (i ++ [q]) (x :: rest)) (hn : x.1 ≤ q.2 + 1) : MkInv (p ++ [x]) (i ++ [(q.1, max q.2 x.2)]) rest := by
  have hx := h.good x (by simp)
  obtain ⟨c1, c2, c3, c4⟩ := (can_snoc _ _ _).1 h.can
  have hq : q.1 ≤ x.1 := h.last i q rfl x (by simp)
  have hq0 : 0 ≤ q.1 := by have := nxt_ge i 0 c1; omega
  refine ⟨(can_snoc _ _ _).2 ⟨c1, c2, by simp only; omega, by simp only; omega⟩, fun y => ?_, fun j r e y hy => ?_, fun y hy => h.good y (by simp [hy]), (List.pairwise_cons.1 h.rise).2⟩
  · rw [has_append, has_append, ← h.same y, has_append, Bool.or_assoc]
    congr 1
    simp only [has_cons, has_nil, Bool.or_false]
    rw [Bool.eq_iff_iff]; simp only [Bool.and_eq_true, Bool.or_eq_true, code_iff, inP_iff]; omega
  · obtain ⟨_, rfl⟩ := snoc_inj e
    exact h.last i q rfl y (by simp [hy])
theorem MkInv.done {p out : List R} (h : MkInv p out []) : IsSet out (has p) := ⟨h.can, fun x _ => h.same x⟩
end Go.Proofs.YtnjomfmdogkhgaaGreatDoor.rng
end
