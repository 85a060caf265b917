/- Texts that the proof leans on, one behind the other. -/
import Derived.Test.YtnjomfmdogkhgaaGreatDoorBnd23

section
/- PropsNobody: tables that no call made tell nothing. -/
set_option linter.unusedVariables false
set_option linter.unusedSimpArgs false
namespace Go.Proofs.YtnjomfmdogkhgaaGreatDoor.prp
open Go.RowKit Go.Maps lin

theorem awake_cat : sF [67, 110] catL 65 = [76, 117] := by decide +kernel
theorem awake_fold : foldF true 223 = [115, 115] := by decide +kernel
set_option maxRecDepth 1000000 in
theorem awake_any (w : World) (E : Env w) : Calls Tryz.prog 26 #[] w fun e w' => e = .returned (.bool true) ∧ Below w.heap.size w w' := by
  have C := load_any w E
  clear E
  go_enter Tryz.func26, Tryz.ntmps26
  go_wp2_with fail
  refine C.mono ?_
  rintro e w1 ⟨t, rfl, ht, b1⟩
  clear C
  have C := category_t t 65 w1 ht
  rw [awake_cat] at C
  have HT : Hid (Tabs w1 t) := ht
  clear ht
  go_wp2_with fail
  refine C.mono ?_
  rintro e w2 ⟨rfl, b2⟩
  clear C
  have C := fold_true t 223 w2 (HT.out.below b2) (by unfold okI; decide)
  rw [awake_fold] at C
  have hq : (BA [76, 117]).toList = [76, 117] := by rw [Lib.toList_data, BA_data]
  go_wp2_with fail
  refine C.mono ?_
  rintro e w3 ⟨v, rfl, ho, b3⟩
  clear C
  have hv := ho.iv
  obtain ⟨a, c, rfl, _⟩ := id hv
  have W3b := (Below.refl w3.heap.size w3).alloc (Nat.le_refl _) (.cells #[.int .i64 115, .int .i64 115] 3)
  have hv2 : IV (w3.alloc (.cells #[.int .i64 115, .int .i64 115] 3)) (.slice (some ⟨w3.heap.size, 0, none⟩) 2 2) [115, 115] :=
    IOwn.iv (base := 0) (World.ownsRow_lit (base := 0) (e := 3) (size := 1) w3 #[.int .i64 115, .int .i64 115] 2 (Nat.zero_le _) (by unfold maxLen; omega) rfl)
  have D := iequal_any _ _ [115, 115] _ (hv.below W3b) hv2 (by decide)
  rw [show ([115, 115] : List Int).length = 2 from rfl] at D
  have HB : Hid (Below w.heap.size w (w3.alloc (.cells #[.int .i64 115, .int .i64 115] 3))) := b1.trans ((b2.trans ((b3.trans (W3b.mono b3.size)).mono b2.size)).mono b1.size)
  clear hv hv2 ho W3b b1 b2 b3
  simp only [List.length_cons, List.length_nil, Nat.zero_add, Nat.reduceAdd] at *
  go_wp2_with fail
  refine D.mono ?_
  rintro e w4 ⟨rfl, b4⟩
  clear D
  go_wp2
  go_ret
  exact ⟨rfl, HB.out.trans (b4.mono HB.out.size)⟩
set_option maxRecDepth 1000000 in
theorem set_no (v : Value) (s : ByteArray) (w : World) (h : Unmade w v) : Calls Tryz.prog 27 #[v, .string s] w fun e w' => e = .returned (.tuple #[.slice none 0 0, .int .i64 2]) ∧ w' = w := by
  have C := made_no v w h
  go_enter Tryz.func27, Tryz.ntmps27
  go_wp2_with fail
  refine C.mono ?_
  rintro e w1 ⟨rfl, hw⟩
  rw [hw]
  go_wp2
  go_ret2
  exact ⟨rfl, rfl⟩
set_option maxHeartbeats 4000000 in
set_option maxRecDepth 1000000 in
theorem nobody_walk (r : Int) (s : ByteArray) (w : World) (hs : s.size ≤ 140737488355327) (E : Env w) : Calls Tryz.prog 8 #[.int .i64 r, .string s] w fun e w' => e = .returned (.bool true) ∧ Below w.heap.size w w' := by
  have HE : Hid (Env w) := E
  clear E
  go_enter Tryz.func8, Tryz.ntmps8
  go_wp2
  have HB : Hid (Below w.heap.size w ((w.alloc (.cells #[.pointer none, .slice none 0 0, .pointer none, .slice none 0 0, .pointer none, .slice none 0 0, .pointer none, .slice none 0 0, .pointer none, .slice none 0 0, .map none, .map none, .map none, .map none] 57)).alloc (.cells #[.pointer none, .pointer (some ⟨w.heap.size, 0, none⟩)] 23))) := ((Below.refl _ w).alloc (Nat.le_refl _) _).alloc (by simp) _
  have nb0 : ((w.alloc (.cells #[.pointer none, .slice none 0 0, .pointer none, .slice none 0 0, .pointer none, .slice none 0 0, .pointer none, .slice none 0 0, .pointer none, .slice none 0 0, .map none, .map none, .map none, .map none] 57)).alloc (.cells #[.pointer none, .pointer (some ⟨w.heap.size, 0, none⟩)] 23)).heap[w.heap.size]? = some (.cells #[.pointer none, .slice none 0 0, .pointer none, .slice none 0 0, .pointer none, .slice none 0 0, .pointer none, .slice none 0 0, .pointer none, .slice none 0 0, .map none, .map none, .map none, .map none] 57 (0, 0)) := by
    rw [Below.heap_alloc _ _ _ (by simp)]; exact World.alloc_heap_new _ _
  have nb1 : ((w.alloc (.cells #[.pointer none, .slice none 0 0, .pointer none, .slice none 0 0, .pointer none, .slice none 0 0, .pointer none, .slice none 0 0, .pointer none, .slice none 0 0, .map none, .map none, .map none, .map none] 57)).alloc (.cells #[.pointer none, .pointer (some ⟨w.heap.size, 0, none⟩)] 23)).heap[w.heap.size + 1]? = some (.cells #[.pointer none, .pointer (some ⟨w.heap.size, 0, none⟩)] 23 (0, 0)) := heap_alloc2_new _ _ _
  generalize (w.alloc (.cells #[.pointer none, .slice none 0 0, .pointer none, .slice none 0 0, .pointer none, .slice none 0 0, .pointer none, .slice none 0 0, .pointer none, .slice none 0 0, .map none, .map none, .map none, .map none] 57)).alloc (.cells #[.pointer none, .pointer (some ⟨w.heap.size, 0, none⟩)] 23) = W at *
  have d0 := cell_of_row W (w.heap.size + 1) 0 _ _ _ nb1
  have d1 := cell_of_row W (w.heap.size + 1) 1 _ _ _ nb1
  have d2 := cell_of_row W w.heap.size 0 _ _ _ nb0
  simp at d0 d1 d2
  have U1 : Hid (Unmade W (.pointer none)) := .inl rfl
  have U2 : Hid (Unmade W (.pointer (some ⟨w.heap.size, 0, none⟩))) := .inr ⟨_, rfl, d2⟩
  clear nb0 nb1 d2
  refine wp_loop_rounds 3 ?_
  rw [rounds_succ]
  have C := set_no (.pointer none) s W U1.out
  go_wp2_with fail
  refine C.mono ?_
  rintro e w1 ⟨rfl, hw⟩
  rw [hw]
  clear C hw w1
  have C := category_no (.pointer none) r W U1.out
  go_wp2_with fail
  refine C.mono ?_
  rintro e w1 ⟨rfl, hw⟩
  rw [hw]
  clear C hw w1
  have C := combining_no (.pointer none) r W U1.out
  go_wp2_with fail
  refine C.mono ?_
  rintro e w1 ⟨rfl, hw⟩
  rw [hw]
  clear C hw w1
  have C := script_no (.pointer none) r W U1.out
  go_wp2_with fail
  refine C.mono ?_
  rintro e w1 ⟨rfl, hw⟩
  rw [hw]
  clear C hw w1
  have C := cluster_no (.pointer none) r W U1.out
  go_wp2_with fail
  refine C.mono ?_
  rintro e w1 ⟨rfl, hw⟩
  rw [hw]
  clear C hw w1
  have C := word_no (.pointer none) r W U1.out
  go_wp2_with fail
  refine C.mono ?_
  rintro e w1 ⟨rfl, hw⟩
  rw [hw]
  clear C hw w1
  have C := parts_no (.pointer none) r W U1.out
  go_wp2_with fail
  refine C.mono ?_
  rintro e w1 ⟨rfl, hw⟩
  rw [hw]
  clear C hw w1
  have C := fold_no (.pointer none) r true W U1.out
  go_wp2_with fail
  refine C.mono ?_
  rintro e w1 ⟨rfl, hw⟩
  rw [hw]
  clear C hw w1
  have C := fold_no (.pointer none) r false W U1.out
  go_wp2_with fail
  refine C.mono ?_
  rintro e w1 ⟨rfl, hw⟩
  rw [hw]
  clear C hw w1
  go_wp2
  rw [rounds_succ]
  have C := set_no (.pointer (some ⟨w.heap.size, 0, none⟩)) s W U2.out
  go_wp2_with fail
  refine C.mono ?_
  rintro e w1 ⟨rfl, hw⟩
  rw [hw]
  clear C hw w1
  have C := category_no (.pointer (some ⟨w.heap.size, 0, none⟩)) r W U2.out
  go_wp2_with fail
  refine C.mono ?_
  rintro e w1 ⟨rfl, hw⟩
  rw [hw]
  clear C hw w1
  have C := combining_no (.pointer (some ⟨w.heap.size, 0, none⟩)) r W U2.out
  go_wp2_with fail
  refine C.mono ?_
  rintro e w1 ⟨rfl, hw⟩
  rw [hw]
  clear C hw w1
  have C := script_no (.pointer (some ⟨w.heap.size, 0, none⟩)) r W U2.out
  go_wp2_with fail
  refine C.mono ?_
  rintro e w1 ⟨rfl, hw⟩
  rw [hw]
  clear C hw w1
  have C := cluster_no (.pointer (some ⟨w.heap.size, 0, none⟩)) r W U2.out
  go_wp2_with fail
  refine C.mono ?_
  rintro e w1 ⟨rfl, hw⟩
  rw [hw]
  clear C hw w1
  have C := word_no (.pointer (some ⟨w.heap.size, 0, none⟩)) r W U2.out
  go_wp2_with fail
  refine C.mono ?_
  rintro e w1 ⟨rfl, hw⟩
  rw [hw]
  clear C hw w1
  have C := parts_no (.pointer (some ⟨w.heap.size, 0, none⟩)) r W U2.out
  go_wp2_with fail
  refine C.mono ?_
  rintro e w1 ⟨rfl, hw⟩
  rw [hw]
  clear C hw w1
  have C := fold_no (.pointer (some ⟨w.heap.size, 0, none⟩)) r true W U2.out
  go_wp2_with fail
  refine C.mono ?_
  rintro e w1 ⟨rfl, hw⟩
  rw [hw]
  clear C hw w1
  have C := fold_no (.pointer (some ⟨w.heap.size, 0, none⟩)) r false W U2.out
  go_wp2_with fail
  refine C.mono ?_
  rintro e w1 ⟨rfl, hw⟩
  rw [hw]
  clear C hw w1
  go_wp2
  rw [rounds_succ]
  have C := awake_any W (HE.out.below HB.out)
  go_wp2_with fail
  refine C.mono ?_
  rintro e w1 ⟨rfl, hb⟩
  clear C
  go_wp2
  go_ret
  exact ⟨rfl, HB.out.trans (hb.mono HB.out.size)⟩
end Go.Proofs.YtnjomfmdogkhgaaGreatDoor.prp
end
