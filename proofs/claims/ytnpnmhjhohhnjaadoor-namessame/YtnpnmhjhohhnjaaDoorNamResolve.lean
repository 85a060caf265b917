/- names.Resolve: what an expression names. -/
import Derived.Test.YtnpnmhjhohhnjaaDoorNamAlone
import Derived.Test.YtnpnmhjhohhnjaaDoorNamAny
set_option linter.unusedVariables false
set_option linter.unusedSimpArgs false
namespace Go.Proofs.YtnpnmhjhohhnjaaDoor.nam
open Go.RowKit lin

/-- What a property and a value of it name. -/
def bothL (p v : List UInt8) : Int × List UInt8 × Int :=
  match lookL ([112, 114], looseL p) with
  | none => (0, [], 50)
  | some r => match lookL (r.2.1, looseL v) with
    | none => (0, [], 51)
    | some q => (numL r.2.1, q.2.1, 0)
def resolveV (s : ByteArray) : Int × List UInt8 × Int :=
  if markI s < 0 then aloneL (looseL s.data.toList) else bothL (s.data.toList.take (markI s).toNat) (s.data.toList.drop ((markI s).toNat + 1))
theorem both0 {p v : List UInt8} (h : lookL ([112, 114], looseL p) = none) : bothL p v = (0, [], 50) := by unfold bothL; rw [h]
theorem both1 {p v : List UInt8} {r : R3} (h : lookL ([112, 114], looseL p) = some r) (h2 : lookL (r.2.1, looseL v) = none) : bothL p v = (0, [], 51) := by unfold bothL; simp only [h, h2]
theorem both2 {p v : List UInt8} {r q : R3} (h : lookL ([112, 114], looseL p) = some r) (h2 : lookL (r.2.1, looseL v) = some q) : bothL p v = (numL r.2.1, q.2.1, 0) := by unfold bothL; simp only [h, h2]
theorem ext_take (s : ByteArray) (p : Nat) : s.extract 0 p = BA (s.data.toList.take p) := by rw [ext_list]; simp
theorem ext_drop (s : ByteArray) (p : Nat) : s.extract p s.size = BA (s.data.toList.drop p) := by
  rw [ext_list, List.take_of_length_le]
  simp
theorem drewBelow {w w' : World} {n : Nat} (h : Below n w w') : Below n w w'.drew := ⟨h.os, h.tape, h.output, h.size, h.block⟩
theorem fromDrew {w w' : World} {n : Nat} (h : Below n w.drew w') : Below n w w' := ⟨h.os, h.tape, h.output, h.size, h.block⟩

theorem blk2 {w : World} {g : Nat} {x y : Value} {t : TypeId} (h : w.heap[g]? = some (.cells #[x, y] t (0, 0))) : w.cell? ⟨g, 0, none⟩ = some x ∧ w.cell? ⟨g, 1, none⟩ = some y ∧ w.frozen? ⟨g, 0, none⟩ = false ∧ w.frozen? ⟨g, 1, none⟩ = false := by
  simp [World.cell?, World.frozen?, h]
theorem set_block {w : World} {g : Nat} {x y : Value} {t : TypeId} (h : w.heap[g]? = some (.cells #[x, y] t (0, 0))) (a b : Value) :
    ((w.setCell ⟨g, 0, none⟩ a).setCell ⟨g, 1, none⟩ b).heap[g]? = some (.cells #[a, b] t (0, 0)) := by
  have h1 := heap_setCell_same w g 0 _ _ a h
  have h2 := heap_setCell_same _ g 1 _ _ b h1
  exact h2

set_option maxHeartbeats 1500000 in
set_option maxRecDepth 100000 in
theorem resolve_any (s : ByteArray) (w : World) (hs : s.size ≤ 140737488355327) :
    Calls Tryd.prog 11 #[.string s] w fun e w' => e = .returned (.tuple #[.int .i64 (resolveV s).1, .string (BA (resolveV s).2.1), .int .i64 (resolveV s).2.2]) ∧ Below w.heap.size w w' := by
  have FA := file_any w
  go_enter Tryd.func11, Tryd.ntmps11
  go_wp2_with fail
  refine FA.mono ?_
  rintro e w1 ⟨b, rfl, hb, hm1, b1⟩
  clear FA
  have AN := any_any s w1 (by omega)
  have hs1 := b1.size
  go_wp2_with fail
  refine AN.mono ?_
  rintro e w2 ⟨rfl, hb2⟩
  clear AN
  have hm2 := hm1.below hb2
  have b2 := b1.trans (hb2.mono hs1)
  have hs2 := b2.size
  clear hm1 hb2 b1
  have hll := looseL_len s.data.toList
  rw [size_list] at hll
  rcases mark_cases s with ⟨hmk, _⟩ | ⟨p, hmk, hp, _, _⟩
  · have HE : Hid (resolveV s = aloneL (looseL s.data.toList)) := by unfold Hid resolveV; rw [if_pos (by rw [hmk]; decide)]
    have LO := loose_any s w2 hs
    rw [hmk]
    clear hmk
    generalize looseL s.data.toList = l at *
    go_wp2_with fail
    refine LO.mono ?_
    rintro e w3 ⟨rfl, hb3⟩
    have AL := alone_any b l w3 (hm2.below hb3) (by omega)
    clear LO
    go_wp2_with fail
    refine AL.mono ?_
    rintro e w4 ⟨rfl, hb4⟩
    clear AL
    have b4 := (b2.trans (hb3.mono hs2)).trans (hb4.mono (b2.trans (hb3.mono hs2)).size)
    go_wp2
    go_ret3
    exact ⟨by rw [HE.out]; rfl, b4⟩
  · have HE : Hid (resolveV s = bothL (s.data.toList.take p) (s.data.toList.drop (p + 1))) := by unfold Hid resolveV; rw [hmk, if_neg (by omega)]; rfl
    have x1 := ext_take s p
    have x2 := ext_drop s (p + 1)
    have hl1 : (s.data.toList.take p).length ≤ s.size := by rw [List.length_take, size_list]; omega
    have hl2 : (s.data.toList.drop (p + 1)).length ≤ s.size := by rw [List.length_drop, size_list]; omega
    generalize s.data.toList.take p = P at *
    generalize s.data.toList.drop (p + 1) = V at *
    have LO := loose_any (BA P) w2 (by rw [BA_size]; omega)
    rw [BA_data] at LO
    have hl3 := looseL_len P
    have hl4 := looseL_len V
    have hp0 : ¬ (p : Int) < 0 := by omega
    have hp1 : (p : Int) ≤ (s.size : Int) := by omega
    have hp2 : (p : Int) + 1 ≤ (s.size : Int) := by omega
    rw [hmk]
    clear hmk
    go_wp2_with fail
    refine LO.mono ?_
    rintro e w3 ⟨rfl, hb3⟩
    clear LO
    have hm3 := hm2.below hb3
    have b3 := b2.trans (hb3.mono hs2)
    have hs3 := b3.size
    clear hm2 hb3 b2
    cases hlk : lookL ([112, 114], looseL P) with
    | none =>
      have LK : (Instr.lookup 47 (.map (some b)) (.agg #[.string ⟨#[112, 114]⟩, .string (BA (looseL P))]) true).run Tryd.prog w3 = .ok (.tuple #[.agg #[.string ⟨#[]⟩, .string ⟨#[]⟩], .bool false]) w3 := look_none hm3 (k := [112, 114]) (by decide) (by omega) hlk
      have HE2 : Hid (resolveV s = (0, [], 50)) := HE.out.trans (both0 hlk)
      clear hlk HE
      go_wp2
      go_ret3
      exact ⟨by rw [HE2.out]; rfl, b3.alloc hs3 _⟩
    | some r =>
      have LK : (Instr.lookup 47 (.map (some b)) (.agg #[.string ⟨#[112, 114]⟩, .string (BA (looseL P))]) true).run Tryd.prog w3 = .ok (.tuple #[.agg #[.string (BA r.2.1), .string (BA r.2.2)], .bool true]) w3 := look_some hm3 (k := [112, 114]) (by decide) (by omega) hlk
      have hrs := rows_small r (look_mem hlk).1
      have HE1 : Hid (lookL (r.2.1, looseL V) = none → resolveV s = (0, [], 51)) := fun h => HE.out.trans (both1 hlk h)
      have HE2 : Hid (∀ q, lookL (r.2.1, looseL V) = some q → resolveV s = (numL r.2.1, q.2.1, 0)) := fun q h => HE.out.trans (both2 hlk h)
      clear hlk HE
      obtain ⟨r0, r1, r2⟩ := r
      simp only at LK hrs HE1 HE2
      obtain ⟨xa, xb, okk2, LQ, HE3⟩ : ∃ (xa xb : List UInt8) (okk2 : Bool), Hid (∀ w', Nm w' b → (Instr.lookup 47 (.map (some b)) (.agg #[.string (BA r1), .string (BA (looseL V))]) true).run Tryd.prog w' = .ok (.tuple #[.agg #[.string (BA xa), .string (BA xb)], .bool okk2]) w') ∧ Hid (resolveV s = if okk2 then (numL r1, xa, 0) else (0, [], 51)) := by
        cases hlq : lookL (r1, looseL V) with
        | none => exact ⟨[], [], false, fun w' h => look_none h (by omega) (by omega) hlq, HE1.out hlq⟩
        | some q => exact ⟨q.2.1, q.2.2, true, fun w' h => look_some h (by omega) (by omega) hlq, HE2.out q hlq⟩
      clear HE1 HE2
      have LV : Hid (∀ W, Calls Tryd.prog 8 #[.string (BA V)] W fun e w' => e = .returned (.string (BA (looseL V))) ∧ Below W.heap.size W w') := fun W => loose_any (BA V) W (by rw [BA_size]; omega)
      have NU : Hid (∀ W, Calls Tryd.prog 26 #[.string (BA r1)] W fun e w' => e = .returned (.int .i64 (numL r1)) ∧ w' = W) := fun W => number_any r1 W
      have hp3 : (0 : Int) ≤ (p : Int) + 1 := by omega
      have wp1 : IntKind.i64.wrap ((p : Int) + 1) = (p : Int) + 1 := by rw [IntKind.wrap_i64]; omega
      go_wp2
      have hm4 := hm3.below ((Below.refl _ w3).alloc (Nat.le_refl _) (.cells #[.string (BA r1), .string (BA r2)] 52))
      have b4 := b3.alloc hs3 (.cells #[.string (BA r1), .string (BA r2)] 52)
      have nb4 : (w3.alloc (.cells #[.string (BA r1), .string (BA r2)] 52)).heap[w3.heap.size]? = some (.cells #[.string (BA r1), .string (BA r2)] 52 (0, 0)) := World.alloc_heap_new _ _
      have hz4 : w3.heap.size < (w3.alloc (.cells #[.string (BA r1), .string (BA r2)] 52)).heap.size := by rw [World.size_alloc]; omega
      obtain ⟨W4, hW4⟩ : ∃ W4, w3.alloc (.cells #[.string (BA r1), .string (BA r2)] 52) = W4 := ⟨_, rfl⟩
      rw [hW4] at hm4 b4 nb4 hz4 ⊢
      clear hW4 hm3 b3 LK
      have c0 := (blk2 nb4).1
      have hs4 := b4.size
      refine wp_region_noPanic ?_
      refine wp_region_held_drew (S := fun w' => w'.cell? ⟨w3.heap.size, 0, none⟩ = some (.string (BA r1)) ∧ Nm w' b) (by kernel_rfl) ?_ (fun hHeld => ?_)
      · exact ⟨c0, hm4⟩
      refine wpAnyH_take (i := 0) (v := ?_) rfl (by kernel_rfl) (by kernel_rfl) (by kernel_rfl) (fun _ _ _ h => h) (Or.inl ⟨by rfl, ?_⟩) (by assumption) ?_
      rotate_left
      · (intro w' hSw; (try dsimp only at hSw); go_simp; try with_reducible rfl)
      try simp only [Act.put, List.setIfInBounds_toArray, List.set_cons_zero, List.set_cons_succ]
      refine wpAnyH_take (i := 1) (v := ?_) rfl (by kernel_rfl) (by kernel_rfl) (by kernel_rfl) (fun _ _ _ h => h) (Or.inl ⟨by rfl, ?_⟩) (by assumption) ?_
      rotate_left
      · (intro w' hSw; (try dsimp only at hSw); go_simp; try with_reducible rfl)
      try simp only [Act.put, List.setIfInBounds_toArray, List.set_cons_zero, List.set_cons_succ]
      refine wpAnyH_take (i := 2) (v := ?_) rfl (by kernel_rfl) (by kernel_rfl) (by kernel_rfl) (fun _ _ _ h => h) (Or.inl ⟨by rfl, ?_⟩) (by assumption) ?_
      rotate_left
      · (intro w' hSw; (try dsimp only at hSw); go_simp; try with_reducible rfl)
      try simp only [Act.put, List.setIfInBounds_toArray, List.set_cons_zero, List.set_cons_succ]
      refine wpAnyH_take (i := 3) (v := ?_) rfl (by kernel_rfl) (by kernel_rfl) (by kernel_rfl) (fun _ _ _ h => h) (Or.inl ⟨by rfl, ?_⟩) (by assumption) ?_
      rotate_left
      · (intro w' hSw; (try dsimp only at hSw); go_simp; try with_reducible rfl)
      try simp only [Act.put, List.setIfInBounds_toArray, List.set_cons_zero, List.set_cons_succ]
      refine wpAnyH_take (i := 4) (v := ?_) rfl (by kernel_rfl) (by kernel_rfl) (by kernel_rfl) (fun _ _ _ h => h) (Or.inl ⟨by rfl, ?_⟩) (by assumption) ?_
      rotate_left
      · (intro w' hSw; (try dsimp only at hSw); go_simp; try with_reducible rfl)
      try simp only [Act.put, List.setIfInBounds_toArray, List.set_cons_zero, List.set_cons_succ]
      refine wpAnyH_take (i := 5) (v := ?_) rfl (by kernel_rfl) (by kernel_rfl) (by kernel_rfl) (fun _ _ _ h => h) (Or.inl ⟨by rfl, ?_⟩) (by assumption) ?_
      rotate_left
      · (intro w' hSw; (try dsimp only at hSw); go_simp; try with_reducible rfl)
      try simp only [Act.put, List.setIfInBounds_toArray, List.set_cons_zero, List.set_cons_succ]
      refine wpAnyH_take (i := 6) (v := ?_) rfl (by kernel_rfl) (by kernel_rfl) (by kernel_rfl) (fun _ _ _ h => h) (Or.inl ⟨by rfl, ?_⟩) (by assumption) ?_
      rotate_left
      · (intro w' hSw; (try dsimp only at hSw); go_simp; try with_reducible rfl)
      try simp only [Act.put, List.setIfInBounds_toArray, List.set_cons_zero, List.set_cons_succ]
      refine wpAnyH_ready (rs := [7, 13]) (by kernel_rfl) (by simp) ?_
      refine AllReadyH.cons rfl (fun K hK => ?_) (AllReadyH.cons rfl (fun K hK => ?_) AllReadyH.nil)
      · go_simp
        refine (LV.out _).mono ?_
        rintro e w5 ⟨rfl, hb5⟩
        have hb5 := fromDrew hb5
        have c5 : w5.cell? ⟨w3.heap.size, 0, none⟩ = some (.string (BA r1)) := (hb5.cell (p := ⟨w3.heap.size, 0, none⟩) (by show w3.heap.size < W4.heap.size; omega)).trans c0
        have hm5 : Nm w5 b := hm4.below hb5
        have b5 : Below w.heap.size w w5 := b4.trans (hb5.mono hs4)
        have hs5 := b5.size
        have hs45 := hb5.size
        have hlt5 : w3.heap.size < w5.heap.size := by omega
        have hne5 : ¬ w3.heap.size = w5.heap.size := by omega
        clear hHeld hb5 hm4 nb4 c0
        refine hK.out _ _ ?_ (fun hHeld => ?_)
        · exact ⟨c5, hm5⟩
        clear hK K
        try simp only [Act.put, List.setIfInBounds_toArray, List.set_cons_zero, List.set_cons_succ]
        refine wpAnyH_take (i := 8) (v := ?_) rfl (by kernel_rfl) (by kernel_rfl) (by kernel_rfl) (fun _ _ _ h => h) (Or.inl ⟨by rfl, ?_⟩) (by assumption) ?_
        rotate_left
        · (intro w' hSw; (try dsimp only at hSw); go_simp; try with_reducible rfl)
        try simp only [Act.put, List.setIfInBounds_toArray, List.set_cons_zero, List.set_cons_succ]
        refine wpAnyH_take (i := 9) (v := ?_) rfl (by kernel_rfl) (by kernel_rfl) (by kernel_rfl) (fun _ _ _ h => h) (Or.inl ⟨by rfl, ?_⟩) (by assumption) ?_
        rotate_left
        · (intro w' hSw; have LQ1 := LQ.out w' hSw.2; go_simp; try with_reducible rfl)
        try simp only [Act.put, List.setIfInBounds_toArray, List.set_cons_zero, List.set_cons_succ]
        refine wpAnyH_take (i := 10) (v := ?_) rfl (by kernel_rfl) (by kernel_rfl) (by kernel_rfl) (fun _ _ _ h => h) (Or.inl ⟨by rfl, ?_⟩) (by assumption) ?_
        rotate_left
        · (intro w' hSw; (try dsimp only at hSw); go_simp; try with_reducible rfl)
        try simp only [Act.put, List.setIfInBounds_toArray, List.set_cons_zero, List.set_cons_succ]
        refine wpAnyH_take (i := 11) (v := ?_) rfl (by kernel_rfl) (by kernel_rfl) (by kernel_rfl) (fun _ _ _ h => h) (Or.inl ⟨by rfl, ?_⟩) (by assumption) ?_
        rotate_left
        · (intro w' hSw; (try dsimp only at hSw); go_simp; try with_reducible rfl)
        try simp only [Act.put, List.setIfInBounds_toArray, List.set_cons_zero, List.set_cons_succ]
        refine wpAnyH_take (i := 12) (v := ?_) rfl (by kernel_rfl) (by kernel_rfl) (by kernel_rfl) (fun _ _ _ h => h) (Or.inl ⟨by rfl, ?_⟩) (by assumption) ?_
        rotate_left
        · (intro w' hSw; (try dsimp only at hSw); go_simp; try with_reducible rfl)
        try simp only [Act.put, List.setIfInBounds_toArray, List.set_cons_zero, List.set_cons_succ]
        refine wpAnyH_ready (rs := [13]) (by kernel_rfl) (by simp) ?_
        refine AllReadyH.cons rfl (fun K hK => ?_) AllReadyH.nil
        go_simp
        refine hK.out _ _ ?_ (fun hHeld => ?_)
        · exact ⟨(World.cell?_alloc_past _ _ _ (by omega)).trans c5, hm5.below ((Below.refl _ w5).alloc (Nat.le_refl _) _)⟩
        clear hK K
        try simp only [Act.put, List.setIfInBounds_toArray, List.set_cons_zero, List.set_cons_succ]
        refine wpAnyH_ready (rs := [14]) (by kernel_rfl) (by simp) ?_
        refine AllReadyH.cons rfl (fun K hK => ?_) AllReadyH.nil
        go_simp
        refine hK.out _ _ ?_ (fun hHeld => ?_)
        · exact ⟨(World.cell?_alloc_past _ _ _ (by omega)).trans c5, hm5.below ((Below.refl _ w5).alloc (Nat.le_refl _) _)⟩
        clear hK K
        try simp only [Act.put, List.setIfInBounds_toArray, List.set_cons_zero, List.set_cons_succ]
        refine wpAnyH_take (i := 15) (v := ?_) rfl (by kernel_rfl) (by kernel_rfl) (by kernel_rfl) (fun _ _ _ h => h) (Or.inl ⟨by rfl, ?_⟩) (by assumption) ?_
        rotate_left
        · (intro w' hSw; (try dsimp only at hSw); go_simp; try with_reducible rfl)
        try simp only [Act.put, List.setIfInBounds_toArray, List.set_cons_zero, List.set_cons_succ]
        refine wpAnyH_done (by kernel_rfl) ?_ _
        refine NoPanic.normal ?_
        clear hHeld
        cases okk2 with
        | false =>
          go_wp2
          go_ret3
          exact ⟨by rw [(HE3.out : resolveV s = _)]; rfl, have q := b5.alloc hs5 _; ⟨q.os, q.tape, q.output, q.size, q.block⟩⟩
        | true =>
          go_wp2
          go_quiet (exact (NU.out _).mono fun _ _ h => ⟨h.1, _, h.2⟩)
          go_wp2
          go_ret3
          exact ⟨by rw [(HE3.out : resolveV s = _)]; rfl, have q := b5.alloc hs5 _; ⟨q.os, q.tape, q.output, q.size, q.block⟩⟩
      · go_simp
        have nbA : (W4.drew.alloc (.cells #[.string ⟨#[]⟩, .string ⟨#[]⟩] 52)).heap[W4.heap.size]? = some (.cells #[.string ⟨#[]⟩, .string ⟨#[]⟩] 52 (0, 0)) := World.alloc_heap_new _ _
        have cA : (W4.alloc (.cells #[.string ⟨#[]⟩, .string ⟨#[]⟩] 52)).drew.cell? ⟨w3.heap.size, 0, none⟩ = some (.string (BA r1)) := (World.cell?_alloc_past _ _ _ (by omega)).trans c0
        have bA : Below W4.heap.size W4 (W4.alloc (.cells #[.string ⟨#[]⟩, .string ⟨#[]⟩] 52)).drew := drewBelow ((Below.refl _ W4).alloc (Nat.le_refl _) _)
        have hmA := hm4.below bA
        refine hK.out _ _ ?_ (fun hHeld2 => ?_)
        · exact ⟨cA, hmA⟩
        clear hK K hHeld
        have hHeld := hHeld2
        clear hHeld2
        try simp only [Act.put, List.setIfInBounds_toArray, List.set_cons_zero, List.set_cons_succ]
        refine wpAnyH_ready (rs := [7]) (by kernel_rfl) (by simp) ?_
        refine AllReadyH.cons rfl (fun K hK => ?_) AllReadyH.nil
        go_simp
        refine (LV.out _).mono ?_
        rintro e w5 ⟨rfl, hb5⟩
        have hb5 := fromDrew hb5
        have szA : (W4.alloc (.cells #[.string ⟨#[]⟩, .string ⟨#[]⟩] 52)).drew.heap.size = W4.heap.size + 1 := World.size_alloc _ _
        have hb6 : Below (W4.heap.size + 1) (W4.alloc (.cells #[.string ⟨#[]⟩, .string ⟨#[]⟩] 52)) w5 := by rw [← szA]; exact hb5
        have c5 : w5.cell? ⟨w3.heap.size, 0, none⟩ = some (.string (BA r1)) := (hb6.cell (p := ⟨w3.heap.size, 0, none⟩) (by show w3.heap.size < _; omega)).trans cA
        have hm5 : Nm w5 b := (hm4.below (bA)).below (w' := w5) (by rw [szA]; exact ⟨hb6.os, hb6.tape, hb6.output, hb6.size, hb6.block⟩)
        have nb5 : w5.heap[W4.heap.size]? = some (.cells #[.string ⟨#[]⟩, .string ⟨#[]⟩] 52 (0, 0)) := (hb6.block _ (by omega)).trans nbA
        have b5 : Below w.heap.size w w5 := (b4.trans (bA.mono hs4)).trans (⟨hb6.os, hb6.tape, hb6.output, hb6.size, fun k hk => hb6.block k (by omega)⟩ : Below w.heap.size (W4.alloc (.cells #[.string ⟨#[]⟩, .string ⟨#[]⟩] 52)).drew w5)
        obtain ⟨g0, g1, g2, g3⟩ := blk2 nb5
        have hs5 := b5.size
        have hs6 := hb6.size
        have nb6 := set_block nb5 (.string (BA xa)) (.string (BA xb))
        have T6 : Turns (fun k => k = W4.heap.size) w5 ((w5.setCell ⟨W4.heap.size, 0, none⟩ (.string (BA xa))).setCell ⟨W4.heap.size, 1, none⟩ (.string (BA xb))) := ⟨rfl, rfl, rfl, by simp, fun k hk hd => by rw [heap_setCell_other _ _ _ _ hd, heap_setCell_other _ _ _ _ hd]⟩
        have c6 := turns_cell T6 c5 (by show ¬ w3.heap.size = _; omega)
        have hm6 : Nm _ b := hm5.turns T6 (fun h => by have := hm4.lt; omega)
        have b6 := b5.trans (T6.below hs5 (fun k h => by omega))
        obtain ⟨k0, k1, k2, k3⟩ := blk2 nb6
        have hlt4 : w3.heap.size < W4.heap.size := by omega
        have hne4 : ¬ w3.heap.size = W4.heap.size := by omega
        have hne4' : ¬ W4.heap.size = w3.heap.size := by omega
        clear hHeld hb5 hb6 nb4 c0 bA hmA cA nbA
        refine hK.out _ _ ?_ (fun hHeld => ?_)
        · exact ⟨c5, hm5⟩
        clear hK K
        try simp only [Act.put, List.setIfInBounds_toArray, List.set_cons_zero, List.set_cons_succ]
        refine wpAnyH_take (i := 8) (v := ?_) rfl (by kernel_rfl) (by kernel_rfl) (by kernel_rfl) (fun _ _ _ h => h) (Or.inl ⟨by rfl, ?_⟩) (by assumption) ?_
        rotate_left
        · (intro w' hSw; (try dsimp only at hSw); go_simp; try with_reducible rfl)
        try simp only [Act.put, List.setIfInBounds_toArray, List.set_cons_zero, List.set_cons_succ]
        refine wpAnyH_take (i := 9) (v := ?_) rfl (by kernel_rfl) (by kernel_rfl) (by kernel_rfl) (fun _ _ _ h => h) (Or.inl ⟨by rfl, ?_⟩) (by assumption) ?_
        rotate_left
        · (intro w' hSw; have LQ1 := LQ.out w' hSw.2; go_simp; try with_reducible rfl)
        try simp only [Act.put, List.setIfInBounds_toArray, List.set_cons_zero, List.set_cons_succ]
        refine wpAnyH_take (i := 10) (v := ?_) rfl (by kernel_rfl) (by kernel_rfl) (by kernel_rfl) (fun _ _ _ h => h) (Or.inl ⟨by rfl, ?_⟩) (by assumption) ?_
        rotate_left
        · (intro w' hSw; (try dsimp only at hSw); go_simp; try with_reducible rfl)
        try simp only [Act.put, List.setIfInBounds_toArray, List.set_cons_zero, List.set_cons_succ]
        refine wpAnyH_take (i := 11) (v := ?_) rfl (by kernel_rfl) (by kernel_rfl) (by kernel_rfl) (fun _ _ _ h => h) (Or.inl ⟨by rfl, ?_⟩) (by assumption) ?_
        rotate_left
        · (intro w' hSw; (try dsimp only at hSw); go_simp; try with_reducible rfl)
        try simp only [Act.put, List.setIfInBounds_toArray, List.set_cons_zero, List.set_cons_succ]
        refine wpAnyH_take (i := 12) (v := ?_) rfl (by kernel_rfl) (by kernel_rfl) (by kernel_rfl) (fun _ _ _ h => h) (Or.inl ⟨by rfl, ?_⟩) (by assumption) ?_
        rotate_left
        · (intro w' hSw; (try dsimp only at hSw); go_simp; try with_reducible rfl)
        try simp only [Act.put, List.setIfInBounds_toArray, List.set_cons_zero, List.set_cons_succ]
        refine wpAnyH_ready (rs := [14]) (by kernel_rfl) (by simp) ?_
        refine AllReadyH.cons rfl (fun K hK => ?_) AllReadyH.nil
        go_simp
        refine hK.out _ _ ?_ (fun hHeld => ?_)
        · exact ⟨c6, hm6⟩
        clear hK K
        try simp only [Act.put, List.setIfInBounds_toArray, List.set_cons_zero, List.set_cons_succ]
        refine wpAnyH_take (i := 15) (v := ?_) rfl (by kernel_rfl) (by kernel_rfl) (by kernel_rfl) (fun _ _ _ h => h) (Or.inl ⟨by rfl, ?_⟩) (by assumption) ?_
        rotate_left
        · (intro w' hSw; (try dsimp only at hSw); go_simp; try with_reducible rfl)
        try simp only [Act.put, List.setIfInBounds_toArray, List.set_cons_zero, List.set_cons_succ]
        refine wpAnyH_done (by kernel_rfl) ?_ _
        refine NoPanic.normal ?_
        clear hHeld
        cases okk2 with
        | false =>
          go_wp2
          go_ret3
          exact ⟨by rw [(HE3.out : resolveV s = _)]; rfl, have q := b6; ⟨q.os, q.tape, q.output, q.size, q.block⟩⟩
        | true =>
          go_wp2
          go_quiet (exact (NU.out _).mono fun _ _ h => ⟨h.1, _, h.2⟩)
          go_wp2
          go_ret3
          exact ⟨by rw [(HE3.out : resolveV s = _)]; rfl, have q := b6; ⟨q.os, q.tape, q.output, q.size, q.block⟩⟩
end Go.Proofs.YtnpnmhjhohhnjaaDoor.nam
