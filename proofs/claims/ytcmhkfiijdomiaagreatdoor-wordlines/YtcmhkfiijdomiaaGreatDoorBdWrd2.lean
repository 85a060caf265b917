/- Texts that the proof leans on, one behind the other. -/
import Derived.Test.YtcmhkfiijdomiaaGreatDoorBdWrd1

section
/- subject.ahead, subject.behind, subject.withinFlags. -/
set_option linter.unusedVariables false
set_option linter.unusedSimpArgs false
namespace Go.Proofs.YtcmhkfiijdomiaaGreatDoor.wrd
open Go.RowKit Go.Maps
open Go.Proofs.YtcmhkfiijdomiaaGreatDoor.lin Go.Proofs.YtcmhkfiijdomiaaGreatDoor.prp

theorem aN_at {l : List Int} {m : Nat} (hm : m ≤ l.length) : (passB (kAt l ((m : Int) - 1)) = false → aN l m = m) ∧ (passB (kAt l ((m : Int) - 1)) = true → ∃ j, m = j + 1 ∧ aN l m = aN l j) := by
  cases m with
  | zero => exact ⟨fun _ => rfl, fun h => by rw [kAt_out (.inl (by omega))] at h; exact absurd h (by decide)⟩
  | succ j =>
    have hx : l[j]? = some l[j] := List.getElem?_eq_getElem (by omega)
    rw [show ((j + 1 : Nat) : Int) - 1 = (j : Int) by omega, kAt_in hx]
    exact ⟨fun h => aN_stop hx h, fun h => ⟨j, rfl, aN_pass hx h⟩⟩
theorem hd_skip {L : List Int} (h : passB (hdK L) = false) : skip L = L := by
  cases L with
  | nil => rfl
  | cons k r => exact skip_stop _ h
theorem fw_at {l : List Int} {j : Nat} (hj : j ≤ l.length) : (passB (kAt l (j : Int)) = false → hdK (skip (fw l j)) = kAt l (j : Int)) ∧ (passB (kAt l (j : Int)) = true → j < l.length ∧ skip (fw l j) = skip (fw l (j + 1))) := by
  refine ⟨fun h => by rw [kAt_fw] at h ⊢; rw [hd_skip h], fun h => ?_⟩
  by_cases hl : j < l.length
  · have hx : l[j]? = some l[j] := List.getElem?_eq_getElem hl
    rw [kAt_in hx] at h
    exact ⟨hl, by rw [fw_cons hx, skip_pass _ h]⟩
  · rw [kAt_out (.inr (by omega))] at h
    exact absurd h (by decide)
set_option maxHeartbeats 1000000 in
set_option maxRecDepth 1000000 in
theorem ahead_t (t : Nat) (ao : Option Addr) (N cap : Nat) (l : List Int) (c : Int) (n : Nat) (w : World) (h : Tabs w t) (hv : Txt w ao N cap l) (hn : n ≤ N) :
    Calls Tryz.prog 67 #[.agg #[.pointer (some ⟨t, 0, none⟩), .slice ao N cap, .int .i64 c], .int .i64 (n : Int)] w fun e w' => e = .returned (.int .i64 ((aN l n : Int) - 1)) ∧ Below w.heap.size w w' := by
  have hl := hv.length
  have hlen := hv.len
  have BA0 : Below w.heap.size w (w.alloc (.cells #[.pointer (some ⟨t, 0, none⟩), .slice ao N cap, .int .i64 c] 69)) := (Below.refl _ w).alloc (Nat.le_refl _) _
  have nb := World.alloc_heap_new w (.cells #[.pointer (some ⟨t, 0, none⟩), .slice ao N cap, .int .i64 c] 69)
  have HBA : Hid (Below w.heap.size w (w.alloc (.cells #[.pointer (some ⟨t, 0, none⟩), .slice ao N cap, .int .i64 c] 69))) := BA0
  have HNB : Hid ((w.alloc (.cells #[.pointer (some ⟨t, 0, none⟩), .slice ao N cap, .int .i64 c] 69)).heap[w.heap.size]? = some (.cells #[.pointer (some ⟨t, 0, none⟩), .slice ao N cap, .int .i64 c] 69 (0, 0))) := nb
  have HKI : Hid (∀ (W : World) (i : Int), Below w.heap.size w W → Calls Tryz.prog 64 #[.agg #[.pointer (some ⟨t, 0, none⟩), .slice ao N cap, .int .i64 c], .int .i64 i] W fun e w' => e = .returned (.int .u32 (bt (kAt l i))) ∧ Below W.heap.size W w') := fun W i hb => kind_t t ao N cap l c i W (h.below hb) (hv.below hb)
  have HAT : Hid (∀ m, m ≤ N → (passB (kAt l ((m : Int) - 1)) = false → aN l m = m) ∧ (passB (kAt l ((m : Int) - 1)) = true → ∃ j, m = j + 1 ∧ aN l m = aN l j)) := fun m hm => aN_at (by omega)
  have HRG : Hid (∀ i, -1 ≤ kAt l i ∧ kAt l i ≤ 19) := fun i => kAt_range l i
  obtain ⟨R, hR⟩ : ∃ R, aN l n = R := ⟨_, rfl⟩
  have HR0 : Hid (aN l n = R) := hR
  rw [hR]
  have w0 : IntKind.i64.wrap ((n : Int) - 1) = (n : Int) - 1 := by rw [IntKind.wrap_i64]; omega
  clear h hv hl hR BA0 nb
  generalize hW0 : w.alloc (.cells #[.pointer (some ⟨t, 0, none⟩), .slice ao N cap, .int .i64 c] 69) = W0 at *
  go_enter Tryz.func67, Tryz.ntmps67
  go_wp2
  try rw [hW0]
  clear hW0
  go_loopw [1] (fun v wr => ∃ m : Nat, m ≤ N ∧ v = .int .i64 ((m : Int) - 1) ∧ Hid (aN l m = R) ∧ Hid (Below W0.heap.size W0 wr)) (fun v _ => (RowKit.intOf v + 1).toNat)
  case atStart => exact ⟨n, hn, rfl, HR0, Below.refl _ _⟩
  case round =>
    clear HR0
    obtain ⟨m, hm, rfl, HR, HB⟩ := hrel
    have hnb := (HB.out.block w.heap.size (Array.getElem?_eq_some_iff.1 HNB.out).1).trans HNB.out
    have d0 := cell_of_row _ w.heap.size 0 _ _ _ hnb
    have d1 := cell_of_row _ w.heap.size 1 _ _ _ hnb
    have d2 := cell_of_row _ w.heap.size 2 _ _ _ hnb
    simp at d0 d1 d2
    have HBW : Hid (Below w.heap.size w wr) := HBA.out.trans (HB.out.mono HBA.out.size)
    have C := HKI.out wr ((m : Int) - 1) HBW.out
    clear hnb
    have hr := HRG.out ((m : Int) - 1)
    obtain ⟨h1, h2⟩ := HAT.out m hm
    have HP : Hid (inB (bt (kAt l ((m : Int) - 1))) 112 = passB (kAt l ((m : Int) - 1))) := in_pass _ hr.1 hr.2
    cases hp : passB (kAt l ((m : Int) - 1)) with
    | false =>
      have HI : Hid (inB (bt (kAt l ((m : Int) - 1))) 112 = false) := HP.out.trans hp
      have hRm : R = m := HR.out.symm.trans (h1 hp)
      clear hp h1 h2 hr HP HR
      generalize bt (kAt l ((m : Int) - 1)) = q at *
      subst hRm
      go_wp2_with fail
      refine C.mono ?_
      rintro e w1 ⟨rfl, b1⟩
      clear C
      have HB1 : Hid (Below w.heap.size w w1) := HBW.out.trans (b1.mono HBW.out.size)
      clear b1 d0 d1 d2 HB HBW
      have C := in_any q 112 w1
      rw [HI.out] at C
      go_wp2_with fail
      refine C.mono ?_
      rintro e w2 ⟨rfl, hw⟩
      rw [hw]
      clear C hw w2
      go_wp2
      go_ret
      exact ⟨rfl, HB1.out⟩
    | true =>
      have HI : Hid (inB (bt (kAt l ((m : Int) - 1))) 112 = true) := HP.out.trans hp
      obtain ⟨j, hj, hj2⟩ := h2 hp
      have HR2 : Hid (aN l j = R) := hj2.symm.trans HR.out
      have wm : IntKind.i64.wrap ((m : Int) - 1 - 1) = (j : Int) - 1 := by rw [IntKind.wrap_i64]; omega
      have hjN : j ≤ N := by omega
      have HMS : Hid ((((j : Nat) : Int) - 1 + 1).toNat < ((m : Int) - 1 + 1).toNat) := by show _ < _; omega
      clear hp h1 h2 hr HP HR hj2 hj
      generalize bt (kAt l ((m : Int) - 1)) = q at *
      go_wp2_with fail
      refine C.mono ?_
      rintro e w1 ⟨rfl, b1⟩
      clear C
      have HB1 : Hid (Below W0.heap.size W0 w1) := HB.out.trans (b1.mono HB.out.size)
      clear b1 d0 d1 d2 HB HBW
      have C := in_any q 112 w1
      rw [HI.out] at C
      go_wp2_with fail
      refine C.mono ?_
      rintro e w2 ⟨rfl, hw⟩
      rw [hw]
      clear C hw w2
      go_wp2
      exact ⟨⟨j, hjN, rfl, HR2, HB1⟩, HMS.out⟩
set_option maxHeartbeats 1000000 in
set_option maxRecDepth 1000000 in
theorem ahead_neg (t : Nat) (ao : Option Addr) (N cap : Nat) (l : List Int) (c : Int) (w : World) (h : Tabs w t) (hv : Txt w ao N cap l) :
    Calls Tryz.prog 67 #[.agg #[.pointer (some ⟨t, 0, none⟩), .slice ao N cap, .int .i64 c], .int .i64 (-1)] w fun e w' => e = .returned (.int .i64 (-2)) ∧ Below w.heap.size w w' := by
  have BA0 : Below w.heap.size w (w.alloc (.cells #[.pointer (some ⟨t, 0, none⟩), .slice ao N cap, .int .i64 c] 69)) := (Below.refl _ w).alloc (Nat.le_refl _) _
  have nb := World.alloc_heap_new w (.cells #[.pointer (some ⟨t, 0, none⟩), .slice ao N cap, .int .i64 c] 69)
  have HBA : Hid (Below w.heap.size w (w.alloc (.cells #[.pointer (some ⟨t, 0, none⟩), .slice ao N cap, .int .i64 c] 69))) := BA0
  have C := kind_t t ao N cap l c (-2) _ (h.below BA0) (hv.below BA0)
  rw [show bt (kAt l (-2)) = 0 from by rw [kAt_out (.inl (by omega))]; decide] at C
  have HI : Hid (inB 0 112 = false) := by show inB 0 112 = false; decide +kernel
  clear h hv BA0
  generalize hW0 : w.alloc (.cells #[.pointer (some ⟨t, 0, none⟩), .slice ao N cap, .int .i64 c] 69) = W0 at *
  have d0 := cell_of_row _ w.heap.size 0 _ _ _ nb
  have d1 := cell_of_row _ w.heap.size 1 _ _ _ nb
  have d2 := cell_of_row _ w.heap.size 2 _ _ _ nb
  simp at d0 d1 d2
  clear nb
  go_enter Tryz.func67, Tryz.ntmps67
  go_wp2
  try rw [hW0]
  clear hW0
  refine wp_loop_rounds 2 ?_
  rw [rounds_succ]
  go_wp2_with fail
  refine C.mono ?_
  rintro e w1 ⟨rfl, b1⟩
  clear C
  have HB1 : Hid (Below w.heap.size w w1) := HBA.out.trans (b1.mono HBA.out.size)
  clear b1 d0 d1 d2
  have C := in_any 0 112 w1
  rw [HI.out] at C
  go_wp2_with fail
  refine C.mono ?_
  rintro e w2 ⟨rfl, hw⟩
  rw [hw]
  clear C hw w2
  go_wp2
  go_ret
  exact ⟨rfl, HB1.out⟩
/-- What stands ahead of what stands ahead. -/
theorem ahead2_t (t : Nat) (ao : Option Addr) (N cap : Nat) (l : List Int) (c : Int) (m : Nat) (w : World) (h : Tabs w t) (hv : Txt w ao N cap l) (hm : m ≤ N) :
    Calls Tryz.prog 67 #[.agg #[.pointer (some ⟨t, 0, none⟩), .slice ao N cap, .int .i64 c], .int .i64 ((m : Int) - 1)] w fun e w' => ∃ j : Int, e = .returned (.int .i64 j) ∧ kAt l j = hdK (skip (bk l m).tail) ∧ Below w.heap.size w w' := by
  have hl := hv.length
  cases m with
  | zero =>
    refine (ahead_neg t ao N cap l c w h hv).mono (fun e w' hh => ⟨-2, hh.1, ?_, hh.2⟩)
    rw [kAt_out (.inl (by omega))]
    rfl
  | succ k =>
    have q := ahead_t t ao N cap l c k w h hv (by omega)
    rw [show ((k + 1 : Nat) : Int) - 1 = (k : Int) by omega]
    refine q.mono (fun e w' hh => ⟨_, hh.1, ?_, hh.2⟩)
    rw [bk_tail (by omega), skip_bk (by omega), kAt_bk (by have := aN_le l k; omega)]
set_option maxHeartbeats 1000000 in
set_option maxRecDepth 1000000 in
theorem behind_t (t : Nat) (ao : Option Addr) (N cap : Nat) (l : List Int) (c : Int) (n : Nat) (w : World) (h : Tabs w t) (hv : Txt w ao N cap l) (hn : n < N) :
    Calls Tryz.prog 68 #[.agg #[.pointer (some ⟨t, 0, none⟩), .slice ao N cap, .int .i64 c], .int .i64 (n : Int)] w fun e w' => ∃ j : Int, e = .returned (.int .i64 j) ∧ kAt l j = hdK (skip (fw l (n + 1))) ∧ Below w.heap.size w w' := by
  have hl := hv.length
  have hlen := hv.len
  have BA0 : Below w.heap.size w (w.alloc (.cells #[.pointer (some ⟨t, 0, none⟩), .slice ao N cap, .int .i64 c] 69)) := (Below.refl _ w).alloc (Nat.le_refl _) _
  have nb := World.alloc_heap_new w (.cells #[.pointer (some ⟨t, 0, none⟩), .slice ao N cap, .int .i64 c] 69)
  have HBA : Hid (Below w.heap.size w (w.alloc (.cells #[.pointer (some ⟨t, 0, none⟩), .slice ao N cap, .int .i64 c] 69))) := BA0
  have HNB : Hid ((w.alloc (.cells #[.pointer (some ⟨t, 0, none⟩), .slice ao N cap, .int .i64 c] 69)).heap[w.heap.size]? = some (.cells #[.pointer (some ⟨t, 0, none⟩), .slice ao N cap, .int .i64 c] 69 (0, 0))) := nb
  have HKI : Hid (∀ (W : World) (i : Int), Below w.heap.size w W → Calls Tryz.prog 64 #[.agg #[.pointer (some ⟨t, 0, none⟩), .slice ao N cap, .int .i64 c], .int .i64 i] W fun e w' => e = .returned (.int .u32 (bt (kAt l i))) ∧ Below W.heap.size W w') := fun W i hb => kind_t t ao N cap l c i W (h.below hb) (hv.below hb)
  have HAT : Hid (∀ j, j ≤ N → (passB (kAt l (j : Int)) = false → hdK (skip (fw l j)) = kAt l (j : Int)) ∧ (passB (kAt l (j : Int)) = true → j < N ∧ skip (fw l j) = skip (fw l (j + 1)))) := fun j hj => by rw [← hl]; exact fw_at (by omega)
  have HRG : Hid (∀ i, -1 ≤ kAt l i ∧ kAt l i ≤ 19) := fun i => kAt_range l i
  obtain ⟨R, hR⟩ : ∃ R, skip (fw l (n + 1)) = R := ⟨_, rfl⟩
  have HR0 : Hid (skip (fw l (n + 1)) = R) := hR
  rw [hR]
  have w0 : IntKind.i64.wrap ((n : Int) + 1) = (n : Int) + 1 := by rw [IntKind.wrap_i64]; omega
  clear h hv hl hR BA0 nb
  generalize hW0 : w.alloc (.cells #[.pointer (some ⟨t, 0, none⟩), .slice ao N cap, .int .i64 c] 69) = W0 at *
  go_enter Tryz.func68, Tryz.ntmps68
  go_wp2
  try rw [hW0]
  clear hW0
  go_loopw [1] (fun v wr => ∃ j : Nat, j ≤ N ∧ v = .int .i64 (j : Int) ∧ Hid (skip (fw l j) = R) ∧ Hid (Below W0.heap.size W0 wr)) (fun v _ => N - (RowKit.intOf v).toNat)
  case atStart => exact ⟨n + 1, by omega, by simp, HR0, Below.refl _ _⟩
  case round =>
    clear HR0
    obtain ⟨m, hm, rfl, HR, HB⟩ := hrel
    have hnb := (HB.out.block w.heap.size (Array.getElem?_eq_some_iff.1 HNB.out).1).trans HNB.out
    have d0 := cell_of_row _ w.heap.size 0 _ _ _ hnb
    have d1 := cell_of_row _ w.heap.size 1 _ _ _ hnb
    have d2 := cell_of_row _ w.heap.size 2 _ _ _ hnb
    simp at d0 d1 d2
    have HBW : Hid (Below w.heap.size w wr) := HBA.out.trans (HB.out.mono HBA.out.size)
    have C := HKI.out wr (m : Int) HBW.out
    clear hnb
    have hr := HRG.out (m : Int)
    obtain ⟨h1, h2⟩ := HAT.out m hm
    have HP : Hid (inB (bt (kAt l (m : Int))) 112 = passB (kAt l (m : Int))) := in_pass _ hr.1 hr.2
    cases hp : passB (kAt l (m : Int)) with
    | false =>
      have HI : Hid (inB (bt (kAt l (m : Int))) 112 = false) := HP.out.trans hp
      have HF : Hid (kAt l (m : Int) = hdK R) := by show _ = _; rw [← HR.out]; exact (h1 hp).symm
      clear hp h1 h2 hr HP HR
      generalize bt (kAt l (m : Int)) = q at *
      go_wp2_with fail
      refine C.mono ?_
      rintro e w1 ⟨rfl, b1⟩
      clear C
      have HB1 : Hid (Below w.heap.size w w1) := HBW.out.trans (b1.mono HBW.out.size)
      clear b1 d0 d1 d2 HB HBW
      have C := in_any q 112 w1
      rw [HI.out] at C
      go_wp2_with fail
      refine C.mono ?_
      rintro e w2 ⟨rfl, hw⟩
      rw [hw]
      clear C hw w2
      go_wp2
      go_ret
      exact ⟨_, rfl, HF.out, HB1.out⟩
    | true =>
      have HI : Hid (inB (bt (kAt l (m : Int))) 112 = true) := HP.out.trans hp
      obtain ⟨hj, hj2⟩ := h2 hp
      have HR2 : Hid (skip (fw l (m + 1)) = R) := hj2.symm.trans HR.out
      have wm : IntKind.i64.wrap ((m : Int) + 1) = (m : Int) + 1 := by rw [IntKind.wrap_i64]; omega
      clear hp h1 h2 hr HP HR hj2
      generalize bt (kAt l (m : Int)) = q at *
      go_wp2_with fail
      refine C.mono ?_
      rintro e w1 ⟨rfl, b1⟩
      clear C
      have HB1 : Hid (Below W0.heap.size W0 w1) := HB.out.trans (b1.mono HB.out.size)
      clear b1 d0 d1 d2 HB HBW
      have C := in_any q 112 w1
      rw [HI.out] at C
      go_wp2_with fail
      refine C.mono ?_
      rintro e w2 ⟨rfl, hw⟩
      rw [hw]
      clear C hw w2
      go_wp2
      exact ⟨⟨m + 1, by omega, by simp, HR2, HB1⟩, by simp [RowKit.intOf]; omega⟩
theorem fl_at {l : List Int} {m : Nat} (hm : m ≤ l.length) (hp : passB (kAt l ((m : Int) - 1)) = false) : (kAt l ((m : Int) - 1) ≠ 19 → flW (bk l m) = 0) ∧ (kAt l ((m : Int) - 1) = 19 → ∃ j, m = j + 1 ∧ flW (bk l m) = 1 + flW (bk l (aN l j))) := by
  cases m with
  | zero => exact ⟨fun _ => rfl, fun h => by rw [kAt_out (.inl (by omega))] at h; exact absurd h (by decide)⟩
  | succ j =>
    have hx : l[j]? = some l[j] := List.getElem?_eq_getElem (by omega)
    rw [show ((j + 1 : Nat) : Int) - 1 = (j : Int) by omega, kAt_in hx] at hp ⊢
    rw [bk_succ hx, flW_stop _ hp]
    refine ⟨fun h => by rw [if_neg h], fun h => ⟨j, rfl, ?_⟩⟩
    rw [if_pos h, ← skip_bk (by omega), flW_skip]
    omega
theorem aN_stops {l : List Int} {n : Nat} (hn : n ≤ l.length) : passB (kAt l ((aN l n : Int) - 1)) = false := by
  rw [kAt_bk (by have := aN_le l n; omega), ← skip_bk hn]
  exact skip_not _
set_option maxHeartbeats 1000000 in
set_option maxRecDepth 1000000 in
theorem flags_t (t : Nat) (ao : Option Addr) (N cap : Nat) (l : List Int) (n : Nat) (w : World) (h : Tabs w t) (hv : Txt w ao N cap l) (hn : n < N) :
    Calls Tryz.prog 71 #[.agg #[.pointer (some ⟨t, 0, none⟩), .slice ao N cap, .int .i64 (n : Int)]] w fun e w' => e = .returned (.bool (kAt l (n : Int) == 19 && flW (bk l n) % 2 == 1)) ∧ Below w.heap.size w w' := by
  have hl := hv.length
  have hlen := hv.len
  have BA0 : Below w.heap.size w (w.alloc (.cells #[.pointer (some ⟨t, 0, none⟩), .slice ao N cap, .int .i64 (n : Int)] 69)) := (Below.refl _ w).alloc (Nat.le_refl _) _
  have nb := World.alloc_heap_new w (.cells #[.pointer (some ⟨t, 0, none⟩), .slice ao N cap, .int .i64 (n : Int)] 69)
  have HBA : Hid (Below w.heap.size w (w.alloc (.cells #[.pointer (some ⟨t, 0, none⟩), .slice ao N cap, .int .i64 (n : Int)] 69))) := BA0
  have HNB : Hid ((w.alloc (.cells #[.pointer (some ⟨t, 0, none⟩), .slice ao N cap, .int .i64 (n : Int)] 69)).heap[w.heap.size]? = some (.cells #[.pointer (some ⟨t, 0, none⟩), .slice ao N cap, .int .i64 (n : Int)] 69 (0, 0))) := nb
  have HKI : Hid (∀ (W : World) (i : Int), Below w.heap.size w W → Calls Tryz.prog 64 #[.agg #[.pointer (some ⟨t, 0, none⟩), .slice ao N cap, .int .i64 (n : Int)], .int .i64 i] W fun e w' => e = .returned (.int .u32 (bt (kAt l i))) ∧ Below W.heap.size W w') := fun W i hb => kind_t t ao N cap l n i W (h.below hb) (hv.below hb)
  have HAI : Hid (∀ (W : World) (m : Nat), m ≤ N → Below w.heap.size w W → Calls Tryz.prog 67 #[.agg #[.pointer (some ⟨t, 0, none⟩), .slice ao N cap, .int .i64 (n : Int)], .int .i64 (m : Int)] W fun e w' => e = .returned (.int .i64 ((aN l m : Int) - 1)) ∧ Below W.heap.size W w') := fun W m hm hb => ahead_t t ao N cap l n m W (h.below hb) (hv.below hb) hm
  have HRG : Hid (∀ i, -1 ≤ kAt l i ∧ kAt l i ≤ 19) := fun i => kAt_range l i
  have HFL : Hid (∀ m, m ≤ N → passB (kAt l ((m : Int) - 1)) = false → (kAt l ((m : Int) - 1) ≠ 19 → flW (bk l m) = 0) ∧ (kAt l ((m : Int) - 1) = 19 → ∃ j, m = j + 1 ∧ flW (bk l m) = 1 + flW (bk l (aN l j)))) := fun m hm hp => fl_at (by omega) hp
  have HST : Hid (∀ m, m ≤ N → passB (kAt l ((aN l m : Int) - 1)) = false ∧ aN l m ≤ m) := fun m hm => ⟨aN_stops (by omega), aN_le l m⟩
  have HF0 : Hid (flW (bk l n) = flW (bk l (aN l n))) := by show _ = _; rw [← skip_bk (by omega), flW_skip]
  have HFB : Hid (flW (bk l n) ≤ N) := by
    show _ ≤ _
    refine Nat.le_trans (flW_le _) ?_
    unfold bk
    rw [List.length_reverse, List.length_map, List.length_take]
    omega
  obtain ⟨T, hT⟩ : ∃ T, flW (bk l n) = T := ⟨_, rfl⟩
  rw [hT] at HF0 HFB
  rw [hT]
  have hr := HRG.out (n : Int)
  have hfl := bt_flag _ hr.1 hr.2
  clear h hv hl hT BA0 nb
  generalize hW0 : w.alloc (.cells #[.pointer (some ⟨t, 0, none⟩), .slice ao N cap, .int .i64 (n : Int)] 69) = W0 at *
  have hnb := HNB.out
  have d0 := cell_of_row _ w.heap.size 0 _ _ _ hnb
  have d1 := cell_of_row _ w.heap.size 1 _ _ _ hnb
  have d2 := cell_of_row _ w.heap.size 2 _ _ _ hnb
  simp at d0 d1 d2
  clear hnb
  have C := HKI.out W0 (n : Int) HBA.out
  cases hk : (kAt l (n : Int) == 19) with
  | false =>
    have q1 : (bt (kAt l (n : Int)) != 524288) = true := by rw [hfl.2]; rw [bne, hk]; rfl
    rw [Bool.false_and]
    clear hk hfl hr
    generalize bt (kAt l (n : Int)) = q at *
    go_enter Tryz.func71, Tryz.ntmps71
    go_wp2_with fail
    try rw [hW0]
    refine C.mono ?_
    rintro e w1 ⟨rfl, b1⟩
    clear C
    have HB1 : Hid (Below w.heap.size w w1) := HBA.out.trans (b1.mono HBA.out.size)
    clear b1 d0 d1 d2
    go_wp2
    try rw [Exit.noGoto_ret]
    go_ret
    exact ⟨rfl, HB1.out⟩
  | true =>
    have q1 : (bt (kAt l (n : Int)) != 524288) = false := by rw [hfl.2]; rw [bne, hk]; rfl
    rw [Bool.true_and]
    clear hk hfl hr
    generalize bt (kAt l (n : Int)) = q at *
    go_enter Tryz.func71, Tryz.ntmps71
    go_wp2_with fail
    try rw [hW0]
    clear hW0
    refine C.mono ?_
    rintro e w1 ⟨rfl, b1⟩
    clear C
    have HB1 : Hid (Below W0.heap.size W0 w1) := b1
    have HBW1 : Hid (Below w.heap.size w w1) := HBA.out.trans (b1.mono HBA.out.size)
    have e0 := cell_below b1 d0
    have e1 := cell_below b1 d1
    have e2 := cell_below b1 d2
    clear b1 d0 d1 d2
    have C := HAI.out w1 n (by omega) HBW1.out
    go_wp2_with fail
    refine C.mono ?_
    rintro e w2 ⟨rfl, b2⟩
    clear C
    have HB2 : Hid (Below W0.heap.size W0 w2) := HB1.out.trans (b2.mono HB1.out.size)
    clear b2 e0 e1 e2 HB1 HBW1 q1
    go_wp2
    go_loopw [3, 4] (fun u v wr => ∃ k m : Nat, m ≤ N ∧ u = .int .i64 (k : Int) ∧ v = .int .i64 ((m : Int) - 1) ∧ Hid (T = k + flW (bk l m)) ∧ Hid (passB (kAt l ((m : Int) - 1)) = false) ∧ Hid (Below W0.heap.size W0 wr)) (fun u v _ => (RowKit.intOf v + 1).toNat)
    case atStart =>
      have hs := HST.out n (by omega)
      exact ⟨0, aN l n, by omega, rfl, rfl, by unfold Hid; rw [HF0.out]; omega, hs.1, HB2⟩
    case round =>
      clear HB2 HF0
      obtain ⟨k, m, hm, rfl, rfl, HT, HPA, HB⟩ := hrel
      have hnb := (HB.out.block w.heap.size (Array.getElem?_eq_some_iff.1 HNB.out).1).trans HNB.out
      have d0 := cell_of_row _ w.heap.size 0 _ _ _ hnb
      have d1 := cell_of_row _ w.heap.size 1 _ _ _ hnb
      have d2 := cell_of_row _ w.heap.size 2 _ _ _ hnb
      simp at d0 d1 d2
      clear hnb
      have HBW : Hid (Below w.heap.size w wr) := HBA.out.trans (HB.out.mono HBA.out.size)
      have C := HKI.out wr ((m : Int) - 1) HBW.out
      have hr := HRG.out ((m : Int) - 1)
      have hfl := bt_flag _ hr.1 hr.2
      obtain ⟨f1, f2⟩ := HFL.out m hm HPA.out
      by_cases hk : kAt l ((m : Int) - 1) = 19
      · obtain ⟨j, hj, hj2⟩ := f2 hk
        have q2 : (bt (kAt l ((m : Int) - 1)) == 524288) = true := by rw [hfl.1, hk]; rfl
        have HT2 : Hid (T = (k + 1) + flW (bk l (aN l j))) := by have := HT.out; rw [hj2] at this; unfold Hid; omega
        have hs := HST.out j (by omega)
        have HPA2 : Hid (passB (kAt l ((aN l j : Int) - 1)) = false) := hs.1
        have hle := hs.2
        have hkN : k + 1 ≤ N := by have := HT2.out; have := HFB.out; omega
        have wk : IntKind.i64.wrap ((k : Int) + 1) = ((k + 1 : Nat) : Int) := by rw [IntKind.wrap_i64]; omega
        have EJ : Hid ((m : Int) - 1 = (j : Int)) := by show _ = _; omega
        have hjN : j ≤ N := by omega
        have hAN : aN l j ≤ N := by omega
        have HMS : Hid ((((aN l j : Nat) : Int) - 1 + 1).toNat < ((m : Int) - 1 + 1).toNat) := by show _ < _; omega
        clear hk hfl hr f1 f2 hs hj2 HT HPA hj
        generalize bt (kAt l ((m : Int) - 1)) = q at *
        go_wp2_with fail
        refine C.mono ?_
        rintro e w3 ⟨rfl, b3⟩
        clear C
        have HB3 : Hid (Below W0.heap.size W0 w3) := HB.out.trans (b3.mono HB.out.size)
        have HBW3 : Hid (Below w.heap.size w w3) := HBW.out.trans (b3.mono HBW.out.size)
        have e0 := cell_below b3 d0
        have e1 := cell_below b3 d1
        have e2 := cell_below b3 d2
        clear b3 d0 d1 d2 HB HBW
        have C := HAI.out w3 j hjN HBW3.out
        rw [← EJ.out] at C
        go_wp2_with fail
        refine C.mono ?_
        rintro e w4 ⟨rfl, b4⟩
        clear C
        have HB4 : Hid (Below W0.heap.size W0 w4) := HB3.out.trans (b4.mono HB3.out.size)
        clear b4 e0 e1 e2 HB3 HBW3
        go_wp2
        exact ⟨⟨k + 1, aN l j, hAN, rfl, rfl, HT2, HPA2, HB4⟩, HMS.out⟩
      · have q2 : (bt (kAt l ((m : Int) - 1)) == 524288) = false := by rw [hfl.1]; exact beq_eq_false_iff_ne.2 hk
        have hTk : T = k := by have := HT.out; rw [f1 hk] at this; omega
        have hkN := HFB.out
        clear hk hfl hr f1 f2 HT HPA
        generalize bt (kAt l ((m : Int) - 1)) = q at *
        subst hTk
        have HME : Hid ((((T : Nat) : Int).tmod 2 == 1) = (T % 2 == 1)) := by
          show _ = _
          rw [Int.tmod_eq_emod_of_nonneg (by omega), Bool.eq_iff_iff, beq_iff_eq, beq_iff_eq]
          omega
        go_wp2_with fail
        refine C.mono ?_
        rintro e w3 ⟨rfl, b3⟩
        clear C
        have HBW3 : Hid (Below w.heap.size w w3) := HBW.out.trans (b3.mono HBW.out.size)
        clear b3 d0 d1 d2 HB HBW
        go_wp2
        go_ret
        refine ⟨?_, HBW3.out⟩
        first | rfl | (rw [← HME.out]; rfl) | (congr 3; rw [Bool.eq_iff_iff, beq_iff_eq, beq_iff_eq]; omega) | skip
end Go.Proofs.YtcmhkfiijdomiaaGreatDoor.wrd
end
