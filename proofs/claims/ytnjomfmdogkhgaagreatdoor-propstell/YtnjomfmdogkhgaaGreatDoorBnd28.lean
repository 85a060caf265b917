/- Texts that the proof leans on, one behind the other. -/
import Derived.Test.YtnjomfmdogkhgaaGreatDoorBnd23
import Derived.Test.YtnjomfmdogkhgaaGreatDoorBnd19
import Derived.ProofKit
import Derived.OpenShut
import Derived.Deep.DeepHandedRow
import Derived.ChangeMaps5
import Derived.Deep.Strs
import Derived.Test.YtnjomfmdogkhgaaGreatDoorBnd26
import Derived.Test.YtnjomfmdogkhgaaGreatDoorBnd27

section
/- PropsNobody: tables that no call made tell nothing. -/
set_option linter.unusedVariables false
set_option linter.unusedSimpArgs false
namespace Go.Proofs.YtnjomfmdogkhgaaGreatDoor.prp
open Go.RowKit Go.Maps lin

theorem awake_cat : sF [67, 110] catL 65 = [76, 117] := by decide +kernel
theorem awake_fold : foldF true 223 = [115, 115] := by decide +kernel
set_option maxRecDepth 1000000 in
theorem awake_any (w : World) (E : Env w) : Calls Tryz.prog 26 #[] w fun e w' => e = .returned (.bool true) ∧ Below w.heap.size w w' := by
  have C := load_any w E
  clear E
  go_enter Tryz.func26, Tryz.ntmps26
  go_wp2_with fail
  refine C.mono ?_
  rintro e w1 ⟨t, rfl, ht, b1⟩
  clear C
  have C := category_t t 65 w1 ht
  rw [awake_cat] at C
  have HT : Hid (Tabs w1 t) := ht
  clear ht
  go_wp2_with fail
  refine C.mono ?_
  rintro e w2 ⟨rfl, b2⟩
  clear C
  have C := fold_true t 223 w2 (HT.out.below b2) (by unfold okI; decide)
  rw [awake_fold] at C
  have hq : (BA [76, 117]).toList = [76, 117] := by rw [Lib.toList_data, BA_data]
  go_wp2_with fail
  refine C.mono ?_
  rintro e w3 ⟨v, rfl, ho, b3⟩
  clear C
  have hv := ho.iv
  obtain ⟨a, c, rfl, _⟩ := id hv
  have W3b := (Below.refl w3.heap.size w3).alloc (Nat.le_refl _) (.cells #[.int .i64 115, .int .i64 115] 3)
  have hv2 : IV (w3.alloc (.cells #[.int .i64 115, .int .i64 115] 3)) (.slice (some ⟨w3.heap.size, 0, none⟩) 2 2) [115, 115] :=
    IOwn.iv (base := 0) (World.ownsRow_lit (base := 0) (e := 3) (size := 1) w3 #[.int .i64 115, .int .i64 115] 2 (Nat.zero_le _) (by unfold maxLen; omega) rfl)
  have D := iequal_any _ _ [115, 115] _ (hv.below W3b) hv2 (by decide)
  rw [show ([115, 115] : List Int).length = 2 from rfl] at D
  have HB : Hid (Below w.heap.size w (w3.alloc (.cells #[.int .i64 115, .int .i64 115] 3))) := b1.trans ((b2.trans ((b3.trans (W3b.mono b3.size)).mono b2.size)).mono b1.size)
  clear hv hv2 ho W3b b1 b2 b3
  simp only [List.length_cons, List.length_nil, Nat.zero_add, Nat.reduceAdd] at *
  go_wp2_with fail
  refine D.mono ?_
  rintro e w4 ⟨rfl, b4⟩
  clear D
  go_wp2
  go_ret
  exact ⟨rfl, HB.out.trans (b4.mono HB.out.size)⟩
set_option maxRecDepth 1000000 in
theorem set_no (v : Value) (s : ByteArray) (w : World) (h : Unmade w v) : Calls Tryz.prog 27 #[v, .string s] w fun e w' => e = .returned (.tuple #[.slice none 0 0, .int .i64 2]) ∧ w' = w := by
  have C := made_no v w h
  go_enter Tryz.func27, Tryz.ntmps27
  go_wp2_with fail
  refine C.mono ?_
  rintro e w1 ⟨rfl, hw⟩
  rw [hw]
  go_wp2
  go_ret2
  exact ⟨rfl, rfl⟩
set_option maxHeartbeats 4000000 in
set_option maxRecDepth 1000000 in
theorem nobody_walk (r : Int) (s : ByteArray) (w : World) (hs : s.size ≤ 140737488355327) (E : Env w) : Calls Tryz.prog 8 #[.int .i64 r, .string s] w fun e w' => e = .returned (.bool true) ∧ Below w.heap.size w w' := by
  have HE : Hid (Env w) := E
  clear E
  go_enter Tryz.func8, Tryz.ntmps8
  go_wp2
  have HB : Hid (Below w.heap.size w ((w.alloc (.cells #[.pointer none, .slice none 0 0, .pointer none, .slice none 0 0, .pointer none, .slice none 0 0, .pointer none, .slice none 0 0, .pointer none, .slice none 0 0, .map none, .map none, .map none, .map none] 57)).alloc (.cells #[.pointer none, .pointer (some ⟨w.heap.size, 0, none⟩)] 23))) := ((Below.refl _ w).alloc (Nat.le_refl _) _).alloc (by simp) _
  have nb0 : ((w.alloc (.cells #[.pointer none, .slice none 0 0, .pointer none, .slice none 0 0, .pointer none, .slice none 0 0, .pointer none, .slice none 0 0, .pointer none, .slice none 0 0, .map none, .map none, .map none, .map none] 57)).alloc (.cells #[.pointer none, .pointer (some ⟨w.heap.size, 0, none⟩)] 23)).heap[w.heap.size]? = some (.cells #[.pointer none, .slice none 0 0, .pointer none, .slice none 0 0, .pointer none, .slice none 0 0, .pointer none, .slice none 0 0, .pointer none, .slice none 0 0, .map none, .map none, .map none, .map none] 57 (0, 0)) := by
    rw [Below.heap_alloc _ _ _ (by simp)]; exact World.alloc_heap_new _ _
  have nb1 : ((w.alloc (.cells #[.pointer none, .slice none 0 0, .pointer none, .slice none 0 0, .pointer none, .slice none 0 0, .pointer none, .slice none 0 0, .pointer none, .slice none 0 0, .map none, .map none, .map none, .map none] 57)).alloc (.cells #[.pointer none, .pointer (some ⟨w.heap.size, 0, none⟩)] 23)).heap[w.heap.size + 1]? = some (.cells #[.pointer none, .pointer (some ⟨w.heap.size, 0, none⟩)] 23 (0, 0)) := heap_alloc2_new _ _ _
  generalize (w.alloc (.cells #[.pointer none, .slice none 0 0, .pointer none, .slice none 0 0, .pointer none, .slice none 0 0, .pointer none, .slice none 0 0, .pointer none, .slice none 0 0, .map none, .map none, .map none, .map none] 57)).alloc (.cells #[.pointer none, .pointer (some ⟨w.heap.size, 0, none⟩)] 23) = W at *
  have d0 := cell_of_row W (w.heap.size + 1) 0 _ _ _ nb1
  have d1 := cell_of_row W (w.heap.size + 1) 1 _ _ _ nb1
  have d2 := cell_of_row W w.heap.size 0 _ _ _ nb0
  simp at d0 d1 d2
  have U1 : Hid (Unmade W (.pointer none)) := .inl rfl
  have U2 : Hid (Unmade W (.pointer (some ⟨w.heap.size, 0, none⟩))) := .inr ⟨_, rfl, d2⟩
  clear nb0 nb1 d2
  refine wp_loop_rounds 3 ?_
  rw [rounds_succ]
  have C := set_no (.pointer none) s W U1.out
  go_wp2_with fail
  refine C.mono ?_
  rintro e w1 ⟨rfl, hw⟩
  rw [hw]
  clear C hw w1
  have C := category_no (.pointer none) r W U1.out
  go_wp2_with fail
  refine C.mono ?_
  rintro e w1 ⟨rfl, hw⟩
  rw [hw]
  clear C hw w1
  have C := combining_no (.pointer none) r W U1.out
  go_wp2_with fail
  refine C.mono ?_
  rintro e w1 ⟨rfl, hw⟩
  rw [hw]
  clear C hw w1
  have C := script_no (.pointer none) r W U1.out
  go_wp2_with fail
  refine C.mono ?_
  rintro e w1 ⟨rfl, hw⟩
  rw [hw]
  clear C hw w1
  have C := cluster_no (.pointer none) r W U1.out
  go_wp2_with fail
  refine C.mono ?_
  rintro e w1 ⟨rfl, hw⟩
  rw [hw]
  clear C hw w1
  have C := word_no (.pointer none) r W U1.out
  go_wp2_with fail
  refine C.mono ?_
  rintro e w1 ⟨rfl, hw⟩
  rw [hw]
  clear C hw w1
  have C := parts_no (.pointer none) r W U1.out
  go_wp2_with fail
  refine C.mono ?_
  rintro e w1 ⟨rfl, hw⟩
  rw [hw]
  clear C hw w1
  have C := fold_no (.pointer none) r true W U1.out
  go_wp2_with fail
  refine C.mono ?_
  rintro e w1 ⟨rfl, hw⟩
  rw [hw]
  clear C hw w1
  have C := fold_no (.pointer none) r false W U1.out
  go_wp2_with fail
  refine C.mono ?_
  rintro e w1 ⟨rfl, hw⟩
  rw [hw]
  clear C hw w1
  go_wp2
  rw [rounds_succ]
  have C := set_no (.pointer (some ⟨w.heap.size, 0, none⟩)) s W U2.out
  go_wp2_with fail
  refine C.mono ?_
  rintro e w1 ⟨rfl, hw⟩
  rw [hw]
  clear C hw w1
  have C := category_no (.pointer (some ⟨w.heap.size, 0, none⟩)) r W U2.out
  go_wp2_with fail
  refine C.mono ?_
  rintro e w1 ⟨rfl, hw⟩
  rw [hw]
  clear C hw w1
  have C := combining_no (.pointer (some ⟨w.heap.size, 0, none⟩)) r W U2.out
  go_wp2_with fail
  refine C.mono ?_
  rintro e w1 ⟨rfl, hw⟩
  rw [hw]
  clear C hw w1
  have C := script_no (.pointer (some ⟨w.heap.size, 0, none⟩)) r W U2.out
  go_wp2_with fail
  refine C.mono ?_
  rintro e w1 ⟨rfl, hw⟩
  rw [hw]
  clear C hw w1
  have C := cluster_no (.pointer (some ⟨w.heap.size, 0, none⟩)) r W U2.out
  go_wp2_with fail
  refine C.mono ?_
  rintro e w1 ⟨rfl, hw⟩
  rw [hw]
  clear C hw w1
  have C := word_no (.pointer (some ⟨w.heap.size, 0, none⟩)) r W U2.out
  go_wp2_with fail
  refine C.mono ?_
  rintro e w1 ⟨rfl, hw⟩
  rw [hw]
  clear C hw w1
  have C := parts_no (.pointer (some ⟨w.heap.size, 0, none⟩)) r W U2.out
  go_wp2_with fail
  refine C.mono ?_
  rintro e w1 ⟨rfl, hw⟩
  rw [hw]
  clear C hw w1
  have C := fold_no (.pointer (some ⟨w.heap.size, 0, none⟩)) r true W U2.out
  go_wp2_with fail
  refine C.mono ?_
  rintro e w1 ⟨rfl, hw⟩
  rw [hw]
  clear C hw w1
  have C := fold_no (.pointer (some ⟨w.heap.size, 0, none⟩)) r false W U2.out
  go_wp2_with fail
  refine C.mono ?_
  rintro e w1 ⟨rfl, hw⟩
  rw [hw]
  clear C hw w1
  go_wp2
  rw [rounds_succ]
  have C := awake_any W (HE.out.below HB.out)
  go_wp2_with fail
  refine C.mono ?_
  rintro e w1 ⟨rfl, hb⟩
  clear C
  go_wp2
  go_ret
  exact ⟨rfl, HB.out.trans (hb.mono HB.out.size)⟩
end Go.Proofs.YtnjomfmdogkhgaaGreatDoor.prp
end

section
/- How a slice of numbers that came in as an argument reads. -/
set_option linter.unusedVariables false
set_option linter.unusedSimpArgs false
namespace Go.Proofs.YtnjomfmdogkhgaaGreatDoor.prp
open Go.ChangeShapes Go.WideShapes Go.ChangeAt Go.RowKit Go.Deep

/-- The argument v reads as the numbers l. -/
def ArgN (W : World) (v : Value) (l : List Int) : Prop := ∃ ao cap, v = .slice ao l.length cap ∧ (l.length = 0 ∨ ∃ b o, ao = some ⟨b, o, none⟩ ∧ ∀ (i : Nat) (r : Int), l[i]? = some r → W.cell? ⟨b, o + i, none⟩ = some (.int .i64 r)) ∧ (∀ r ∈ l, okI r) ∧ l.length ≤ 9223372036854775807
set_option maxRecDepth 100000 in
theorem open_ints {H : Type} {enc : TypeId × Value → H} {W : World} {base : Nat} {v : Value} {d : DataW H} {p : List MemPlace}
    (hv : Value.okWide Tryz.prog W .any base 22 v) (h : DataW.Trod enc Tryz.prog W 0 (fun _ => true) true 22 v d p) :
    ∃ l : List Int, ArgN W v l := by
  obtain ⟨ao, n, cap, rfl⟩ := okWide_slice Tryz.underlying22 hv
  obtain ⟨fuel, hf⟩ := h
  rcases open_slice Tryz.underlying22 hf with ⟨hcs, _⟩ | ⟨a, len, cap', m, k, D, Pl, hcs, _, hl, hm, hmm, hx, hel⟩
  · simp [Value.cells] at hcs
    obtain ⟨rfl, rfl, rfl⟩ := hcs
    exact ⟨[], none, 0, rfl, .inl rfl, fun r h => (by cases h), by simp⟩
  · simp [Value.cells] at hcs
    obtain ⟨rfl, rfl, rfl⟩ := hcs
    simp at hmm
    subst hmm
    have c1 : Tryz.prog.cellsOf 3 = 1 := by kernel_rfl
    have each : ∀ i, i < n → ∃ r : Int, W.cell? (a.add i) = some (.int .i64 r) ∧ okI r := by
      intro i hi
      obtain ⟨cs', h1, h2⟩ := hel i (by omega)
      rw [c1] at h1
      obtain ⟨_, hlen, hcell⟩ := World.cells?_some h1
      match cs', hlen with
      | [v0], _ =>
        have e0 := hcell 0 (by omega)
        rw [Go.Deep.add_add] at e0
        obtain ⟨x0, hv0, hy0, hw0⟩ := DataW.trod_int Tryz.underlying3 h2
        obtain rfl : v0 = .int .i64 x0 := by simpa using hv0
        exact ⟨x0, by simpa using e0, by simpa [okI, Lit.wf, IntKind.min, IntKind.max, IntKind.signed, IntKind.bits] using hw0⟩
    obtain ⟨Rf, hR⟩ := choose_lt each
    unfold maxLen at hm
    refine ⟨(List.range n).map Rf, some a, _, by rw [List.length_map, List.length_range], ?_, fun r hr => ?_, by simp; omega⟩
    rcases Nat.eq_zero_or_pos n with h0 | h0
    · subst h0; exact .inl rfl
    · obtain ⟨b, off, spot⟩ := a
      have hspot : spot = none := by simpa [Addr.add] using World.cell?_spot (hR 0 h0).1
      subst hspot
      refine .inr ⟨b, off, rfl, fun i r hi => ?_⟩
      rw [List.getElem?_map] at hi
      have hil : i < n := by
        rcases Nat.lt_or_ge i n with h' | h'
        · exact h'
        · rw [List.getElem?_eq_none (by simpa using h')] at hi; cases hi
      rw [List.getElem?_range hil] at hi
      obtain rfl : Rf i = r := by simpa using hi
      have q1 := (hR i hil).1
      rw [Addr.add_lit] at q1
      exact q1
    · obtain ⟨i, hi, rfl⟩ := List.mem_map.1 hr
      exact (hR i (List.mem_range.1 hi)).2
end Go.Proofs.YtnjomfmdogkhgaaGreatDoor.prp
end

section
/- PropsTell: all that the files say of any code point. -/
set_option linter.unusedVariables false
set_option linter.unusedSimpArgs false
namespace Go.Proofs.YtnjomfmdogkhgaaGreatDoor.prp
open Go.RowKit Go.Maps lin

theorem ptell_len (r : Int) : (partsF r).length ≤ 100 := by
  rw [partsF_first]
  cases h : firstR decL r with
  | none => exact Nat.zero_le _
  | some x => exact (dec_pos x (first_mem h).1).2
theorem ftell_len (full : Bool) (r : Int) : (foldF full r).length ≤ 100 := by
  rw [foldF_first]
  cases h : firstF full folL r with
  | none => exact (by decide : 1 ≤ 100)
  | some x =>
    have hm : x ∈ folL := List.mem_of_find?_eq_some h
    have h2 := (fol_pos x hm).2.1
    show (headAdd (rcp x 1) (r - x.1)).length ≤ 100
    cases hq : rcp x 1 with
    | nil => exact Nat.zero_le _
    | cons a b => rw [hq] at h2; exact h2
set_option maxHeartbeats 8000000 in
set_option maxRecDepth 1000000 in
theorem tell_walk (v : Value) (l : List Int) (w : World) (h : ArgN w v l) (E : Env w) : Calls Tryz.prog 3 #[v] w fun e w' => e = .returned (.bool true) ∧ Below w.heap.size w w' := by
  have HE : Hid (Env w) := E
  have C := load_any w E
  obtain ⟨ao, cap, rfl, hcells, hok, hlen⟩ := h
  have HC : Hid (∀ (k : Nat), k < l.length → ∃ r b o, ao = some ⟨b, o, none⟩ ∧ w.cell? ⟨b, o + k, none⟩ = some (.int .i64 r) ∧ okI r) := fun k hk => by
    rcases hcells with h0 | ⟨b, o, e, hc⟩
    · omega
    · exact ⟨l[k], b, o, e, hc k _ (List.getElem?_eq_getElem hk), hok _ (List.getElem_mem hk)⟩
  clear hcells hok E
  generalize l.length = nl at *
  have HAW : Hid (∀ W, Below w.heap.size w W → Calls Tryz.prog 26 #[] W fun e w' => e = .returned (.bool true) ∧ Below W.heap.size W w') := fun W hb => prp.awake_any W (HE.out.below hb)
  go_enter Tryz.func3, Tryz.ntmps3
  go_wp2_with fail
  refine C.mono ?_
  rintro e w1 ⟨t, rfl, ht, b1⟩
  clear C
  have HT1 : Hid (Tabs w1 t) := ht
  clear ht
  have C := rload_any w1
  go_wp2_with fail
  refine C.mono ?_
  rintro e w2 ⟨u, rfl, hu, b2⟩
  clear C
  have HT2 : Hid (Tabs w2 t) := HT1.out.below b2
  have HU2 : Hid (RTabs w2 u) := hu
  have HB2 : Hid (Below w.heap.size w w2) := b1.trans (b2.mono b1.size)
  clear hu b1 b2 HT1
  go_wp2
  go_loopw [11] (fun i wr => ∃ k : Nat, k ≤ nl ∧ i = .int .i64 k ∧ Hid (Tabs wr t) ∧ Hid (RTabs wr u) ∧ Hid (Below w.heap.size w wr)) (fun i _ => nl - (RowKit.intOf i).toNat)
  case atStart => exact ⟨0, Nat.zero_le _, rfl, HT2, HU2, HB2⟩
  case round =>
    clear HT2 HU2 HB2
    obtain ⟨k, hk, rfl, HT0, HU0, HB0⟩ := hrel
    by_cases hlt : k < nl
    · have hlt' : (k : Int) < (nl : Int) := by omega
      obtain ⟨r, b, o, rfl, hc0, hr⟩ := HC.out k hlt
      have hc := cell_below HB0.out hc0
      have HR : Hid (okI r) := hr
      clear hr hc0
      by_cases h40 : 40 < k
      · have h40' : (40 : Int) < (k : Int) := by omega
        have C := HAW.out wr HB0.out
        go_wp2_with fail
        refine C.mono ?_
        rintro e w9 ⟨rfl, b9⟩
        clear C
        go_wp2
        go_ret
        exact ⟨rfl, HB0.out.trans (b9.mono HB0.out.size)⟩
      · have h40' : ¬ (40 : Int) < (k : Int) := by omega
        generalize hwr : wr = x0 at *
        clear hwr
        obtain ⟨X0, hX⟩ : ∃ X, BA (sF [67, 110] catL r) = X := ⟨_, rfl⟩
        have HX0 : Hid (BA (sF [67, 110] catL r) = X0) := hX
        clear hX
        have C := category_t t r x0 HT0.out
        rw [(HX0.out : BA (sF [67, 110] catL r) = X0)] at C
        go_wp2_with fail
        refine C.mono ?_
        rintro e x1 ⟨rfl, hb⟩
        clear C
        have HT1 : Hid (Tabs x1 t) := HT0.out.below hb
        have HU1 : Hid (RTabs x1 u) := HU0.out.below hb
        have HB1 : Hid (Below w.heap.size w x1) := HB0.out.trans (hb.mono HB0.out.size)
        clear HT0 HU0 HB0 hb
        have C := rcategory_t u r x1 HU1.out
        rw [(HX0.out : BA (sF [67, 110] catL r) = X0)] at C
        go_wp2_with fail
        refine C.mono ?_
        rintro e x2 ⟨rfl, hb⟩
        clear C
        have HT2 : Hid (Tabs x2 t) := HT1.out.below hb
        have HU2 : Hid (RTabs x2 u) := HU1.out.below hb
        have HB2 : Hid (Below w.heap.size w x2) := HB1.out.trans (hb.mono HB1.out.size)
        clear HT1 HU1 HB1 hb
        obtain ⟨X2, hX⟩ : ∃ X, iF comL r = X := ⟨_, rfl⟩
        have HX2 : Hid (iF comL r = X2) := hX
        clear hX
        have C := combining_t t r x2 HT2.out
        rw [(HX2.out : iF comL r = X2)] at C
        go_wp2_with fail
        refine C.mono ?_
        rintro e x3 ⟨rfl, hb⟩
        clear C
        have HT3 : Hid (Tabs x3 t) := HT2.out.below hb
        have HU3 : Hid (RTabs x3 u) := HU2.out.below hb
        have HB3 : Hid (Below w.heap.size w x3) := HB2.out.trans (hb.mono HB2.out.size)
        clear HT2 HU2 HB2 hb
        have C := rcombining_t u r x3 HU3.out
        rw [(HX2.out : iF comL r = X2)] at C
        go_wp2_with fail
        refine C.mono ?_
        rintro e x4 ⟨rfl, hb⟩
        clear C
        have HT4 : Hid (Tabs x4 t) := HT3.out.below hb
        have HU4 : Hid (RTabs x4 u) := HU3.out.below hb
        have HB4 : Hid (Below w.heap.size w x4) := HB3.out.trans (hb.mono HB3.out.size)
        clear HT3 HU3 HB3 hb
        obtain ⟨X4, hX⟩ : ∃ X, BA (sF [90, 122, 122, 122] scrL r) = X := ⟨_, rfl⟩
        have HX4 : Hid (BA (sF [90, 122, 122, 122] scrL r) = X4) := hX
        clear hX
        have C := script_t t r x4 HT4.out
        rw [(HX4.out : BA (sF [90, 122, 122, 122] scrL r) = X4)] at C
        go_wp2_with fail
        refine C.mono ?_
        rintro e x5 ⟨rfl, hb⟩
        clear C
        have HT5 : Hid (Tabs x5 t) := HT4.out.below hb
        have HU5 : Hid (RTabs x5 u) := HU4.out.below hb
        have HB5 : Hid (Below w.heap.size w x5) := HB4.out.trans (hb.mono HB4.out.size)
        clear HT4 HU4 HB4 hb
        have C := rscript_t u r x5 HU5.out
        rw [(HX4.out : BA (sF [90, 122, 122, 122] scrL r) = X4)] at C
        go_wp2_with fail
        refine C.mono ?_
        rintro e x6 ⟨rfl, hb⟩
        clear C
        have HT6 : Hid (Tabs x6 t) := HT5.out.below hb
        have HU6 : Hid (RTabs x6 u) := HU5.out.below hb
        have HB6 : Hid (Below w.heap.size w x6) := HB5.out.trans (hb.mono HB5.out.size)
        clear HT5 HU5 HB5 hb
        obtain ⟨X6, hX⟩ : ∃ X, BA (clF r) = X := ⟨_, rfl⟩
        have HX6 : Hid (BA (clF r) = X6) := hX
        clear hX
        have C := cluster_t t r x6 HT6.out
        rw [(HX6.out : BA (clF r) = X6)] at C
        go_wp2_with fail
        refine C.mono ?_
        rintro e x7 ⟨rfl, hb⟩
        clear C
        have HT7 : Hid (Tabs x7 t) := HT6.out.below hb
        have HU7 : Hid (RTabs x7 u) := HU6.out.below hb
        have HB7 : Hid (Below w.heap.size w x7) := HB6.out.trans (hb.mono HB6.out.size)
        clear HT6 HU6 HB6 hb
        have C := rcluster_t u r x7 HU7.out HR.out
        rw [(HX6.out : BA (clF r) = X6)] at C
        go_wp2_with fail
        refine C.mono ?_
        rintro e x8 ⟨rfl, hb⟩
        clear C
        have HT8 : Hid (Tabs x8 t) := HT7.out.below hb
        have HU8 : Hid (RTabs x8 u) := HU7.out.below hb
        have HB8 : Hid (Below w.heap.size w x8) := HB7.out.trans (hb.mono HB7.out.size)
        clear HT7 HU7 HB7 hb
        obtain ⟨X8, hX⟩ : ∃ X, BA (sF [] worL r) = X := ⟨_, rfl⟩
        have HX8 : Hid (BA (sF [] worL r) = X8) := hX
        clear hX
        have C := word_t t r x8 HT8.out
        rw [(HX8.out : BA (sF [] worL r) = X8)] at C
        go_wp2_with fail
        refine C.mono ?_
        rintro e x9 ⟨rfl, hb⟩
        clear C
        have HT9 : Hid (Tabs x9 t) := HT8.out.below hb
        have HU9 : Hid (RTabs x9 u) := HU8.out.below hb
        have HB9 : Hid (Below w.heap.size w x9) := HB8.out.trans (hb.mono HB8.out.size)
        clear HT8 HU8 HB8 hb
        have C := rword_t u r x9 HU9.out
        rw [(HX8.out : BA (sF [] worL r) = X8)] at C
        go_wp2_with fail
        refine C.mono ?_
        rintro e x10 ⟨rfl, hb⟩
        clear C
        have HT10 : Hid (Tabs x10 t) := HT9.out.below hb
        have HU10 : Hid (RTabs x10 u) := HU9.out.below hb
        have HB10 : Hid (Below w.heap.size w x10) := HB9.out.trans (hb.mono HB9.out.size)
        clear HT9 HU9 HB9 hb
        have C := parts_t t r x10 HT10.out HR.out
        go_wp2_with fail
        refine C.mono ?_
        rintro e x11 ⟨va10, rfl, hv, hb⟩
        clear C
        have HA10 : Hid (IV x11 va10 (partsF r)) := hv.iv
        clear hv
        have HT11 : Hid (Tabs x11 t) := HT10.out.below hb
        have HU11 : Hid (RTabs x11 u) := HU10.out.below hb
        have HB11 : Hid (Below w.heap.size w x11) := HB10.out.trans (hb.mono HB10.out.size)
        clear HT10 HU10 HB10
        have HA10' : Hid (IV x11 va10 (partsF r)) := HA10
        clear hb HA10
        have C := rparts_t u r x11 HU11.out
        go_wp2_with fail
        refine C.mono ?_
        rintro e x12 ⟨vb11, rfl, hv, hb⟩
        clear C
        have HV11 : Hid (IV x12 vb11 (partsF r)) := hv
        have HW10 : Hid (IV x12 va10 (partsF r)) := HA10'.out.below hb
        clear hv HA10'
        have HT12 : Hid (Tabs x12 t) := HT11.out.below hb
        have HU12 : Hid (RTabs x12 u) := HU11.out.below hb
        have HB12 : Hid (Below w.heap.size w x12) := HB11.out.trans (hb.mono HB11.out.size)
        clear HT11 HU11 HB11
        clear hb
        have C := iequal_any va10 vb11 (partsF r) x12 HW10.out HV11.out (by have := ptell_len r; omega)
        go_wp2_with fail
        refine C.mono ?_
        rintro e x13 ⟨rfl, hb⟩
        clear C
        have HT13 : Hid (Tabs x13 t) := HT12.out.below hb
        have HU13 : Hid (RTabs x13 u) := HU12.out.below hb
        have HB13 : Hid (Below w.heap.size w x13) := HB12.out.trans (hb.mono HB12.out.size)
        clear HT12 HU12 HB12
        clear hb HW10 HV11
        have C := fold_t t r true x13 HT13.out HR.out
        go_wp2_with fail
        refine C.mono ?_
        rintro e x14 ⟨va13, rfl, hv, hb⟩
        clear C
        have HA13 : Hid (IV x14 va13 (foldF true r)) := hv.iv
        clear hv
        have HT14 : Hid (Tabs x14 t) := HT13.out.below hb
        have HU14 : Hid (RTabs x14 u) := HU13.out.below hb
        have HB14 : Hid (Below w.heap.size w x14) := HB13.out.trans (hb.mono HB13.out.size)
        clear HT13 HU13 HB13
        have HA13' : Hid (IV x14 va13 (foldF true r)) := HA13
        clear hb HA13
        have C := rfold_t u r true x14 HU14.out HR.out
        go_wp2_with fail
        refine C.mono ?_
        rintro e x15 ⟨vb14, rfl, hv, hb⟩
        clear C
        have HV14 : Hid (IV x15 vb14 (foldF true r)) := hv
        have HW13 : Hid (IV x15 va13 (foldF true r)) := HA13'.out.below hb
        clear hv HA13'
        have HT15 : Hid (Tabs x15 t) := HT14.out.below hb
        have HU15 : Hid (RTabs x15 u) := HU14.out.below hb
        have HB15 : Hid (Below w.heap.size w x15) := HB14.out.trans (hb.mono HB14.out.size)
        clear HT14 HU14 HB14
        clear hb
        have C := iequal_any va13 vb14 (foldF true r) x15 HW13.out HV14.out (by have := ftell_len true r; omega)
        go_wp2_with fail
        refine C.mono ?_
        rintro e x16 ⟨rfl, hb⟩
        clear C
        have HT16 : Hid (Tabs x16 t) := HT15.out.below hb
        have HU16 : Hid (RTabs x16 u) := HU15.out.below hb
        have HB16 : Hid (Below w.heap.size w x16) := HB15.out.trans (hb.mono HB15.out.size)
        clear HT15 HU15 HB15
        clear hb HW13 HV14
        have C := fold_t t r false x16 HT16.out HR.out
        go_wp2_with fail
        refine C.mono ?_
        rintro e x17 ⟨va16, rfl, hv, hb⟩
        clear C
        have HA16 : Hid (IV x17 va16 (foldF false r)) := hv.iv
        clear hv
        have HT17 : Hid (Tabs x17 t) := HT16.out.below hb
        have HU17 : Hid (RTabs x17 u) := HU16.out.below hb
        have HB17 : Hid (Below w.heap.size w x17) := HB16.out.trans (hb.mono HB16.out.size)
        clear HT16 HU16 HB16
        have HA16' : Hid (IV x17 va16 (foldF false r)) := HA16
        clear hb HA16
        have C := rfold_t u r false x17 HU17.out HR.out
        go_wp2_with fail
        refine C.mono ?_
        rintro e x18 ⟨vb17, rfl, hv, hb⟩
        clear C
        have HV17 : Hid (IV x18 vb17 (foldF false r)) := hv
        have HW16 : Hid (IV x18 va16 (foldF false r)) := HA16'.out.below hb
        clear hv HA16'
        have HT18 : Hid (Tabs x18 t) := HT17.out.below hb
        have HU18 : Hid (RTabs x18 u) := HU17.out.below hb
        have HB18 : Hid (Below w.heap.size w x18) := HB17.out.trans (hb.mono HB17.out.size)
        clear HT17 HU17 HB17
        clear hb
        have C := iequal_any va16 vb17 (foldF false r) x18 HW16.out HV17.out (by have := ftell_len false r; omega)
        go_wp2_with fail
        refine C.mono ?_
        rintro e x19 ⟨rfl, hb⟩
        clear C
        have HT19 : Hid (Tabs x19 t) := HT18.out.below hb
        have HU19 : Hid (RTabs x19 u) := HU18.out.below hb
        have HB19 : Hid (Below w.heap.size w x19) := HB18.out.trans (hb.mono HB18.out.size)
        clear HT18 HU18 HB18
        clear hb HW16 HV17
        go_wp2
        exact ⟨⟨k + 1, by omega, by go_num, HT19, HU19, HB19⟩, by simp [RowKit.intOf]; omega⟩
    · have hge : ¬ (k : Int) < (nl : Int) := by omega
      have C := HAW.out wr HB0.out
      go_wp2_with fail
      refine C.mono ?_
      rintro e w9 ⟨rfl, b9⟩
      clear C
      go_wp2
      go_ret
      exact ⟨rfl, HB0.out.trans (b9.mono HB0.out.size)⟩
end Go.Proofs.YtnjomfmdogkhgaaGreatDoor.prp
end
