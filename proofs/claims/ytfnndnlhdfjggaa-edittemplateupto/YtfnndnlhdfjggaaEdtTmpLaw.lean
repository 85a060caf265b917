/- The walk of EditTemplate. -/
import Derived.Test.YtfnndnlhdfjggaaEdtSameP
import Derived.Test.YtfnndnlhdfjggaaEdtLaws
set_option linter.unusedVariables false
set_option linter.unusedSimpArgs false
namespace Go.Proofs.Ytfnndnlhdfjggaa.edt
open Go.RowKit

theorem fault_cells {w : World} {g : Nat} {c a : Int} (h : w.heap[g]? = some (.cells #[.int .i64 c, .int .i64 a] 28 (0, 0))) : w.cell? ⟨g, 0, none⟩ = some (.int .i64 c) ∧ w.cell? ⟨g, 1, none⟩ = some (.int .i64 a) := by
  constructor <;> simp [World.cell?, h]

/-- A text, alone in a row, may be written over. -/
theorem sv_one {w W : World} {B : Nat} {a : Option Addr} {m c : Nat} (hm : m ≤ 9223372036854775807) (h : m = 0 ∨ ∃ h, a = some ⟨h, 0, none⟩ ∧ B ≤ h ∧ ∀ j, j < m → (∃ x, w.cell? ⟨h, j, none⟩ = some (.int .u8 x)) ∧ w.frozen? ⟨h, j, none⟩ = false) (g : Nat)
    (hb : Below w.heap.size w W) (hg : W.cell? ⟨g, 0, none⟩ = some (.slice a m c)) : SV W B (some ⟨g, 0, none⟩) 1 1 := by
  refine ⟨Nat.le_refl _, by omega, .inr ⟨g, 0, rfl, fun i hi => ?_⟩⟩
  obtain rfl : i = 0 := by omega
  refine ⟨a, m, c, hg, hm, ?_⟩
  rcases h with h | ⟨k, rfl, hB, hc⟩
  · exact .inl h
  · refine .inr ⟨k, 0, rfl, hB, fun j hj => ?_⟩
    obtain ⟨⟨x, hx⟩, hf⟩ := hc j hj
    have hl := World.block_lt_of_cell? w _ hx
    rw [Nat.zero_add]
    exact ⟨⟨x, (hb.cell hl).trans hx⟩, (hb.frozen hl).trans hf⟩

set_option maxHeartbeats 4000000 in
set_option maxRecDepth 100000 in
theorem template_no (ao : Option Addr) (n cap : Nat) (b : List Int) (groups : Int) (aT : Option Addr) (nT cT : Nat) (T : List ByteArray) (w : World) (hB : BS w ao n cap b) (hT : TS w aT nT cT T) (hn : n ≤ 1048576) (fc : Int) (fa : Nat) (hR : tm b groups T (n + 1) 0 [] = .no fc fa) :
    Calls Try.prog 3 #[.slice ao n cap, .int .i64 groups, .slice aT nT cT] w fun e w' => e = .returned (.bool true) ∧ Below w.heap.size w w' := by
  have C := clone_any ao n cap b w hB (by omega)
  have HB : Hid (BS w ao n cap b) := hB
  have HT : Hid (TS w aT nT cT T) := hT
  have HR : Hid (tm b groups T (n + 1) 0 [] = .no fc fa) := hR
  clear hB hT hR
  go_enter Try.func3, Try.ntmps3
  go_wp2_with fail
  refine C.mono ?_
  rintro e w1 ⟨gv, rfl, hO, hb1⟩
  obtain ⟨ga, gc, rfl, hG⟩ := hO.bs HB.out.rg
  rw [HB.out.len] at hG ⊢
  have HG1 : Hid (BS w1 ga n gc b) := hG
  have S1 := tmpl_any ga n gc b groups aT nT cT T w1 hG (HT.out.below hb1) hn
  rw [HR.out] at S1
  clear C hO hG
  go_wp2_with fail
  refine S1.mono ?_
  rintro e w2 ⟨rfl, hb2⟩
  have hb2' := hb1.trans (hb2.mono hb1.size)
  have HG2 : Hid (BS w2 ga n gc b) := HG1.out.below hb2
  have hbA : Below w2.heap.size w2 (w2.alloc (.cells #[.int .i64 fc, .int .i64 fa] 28)) := (Below.refl _ _).alloc (Nat.le_refl _) _
  have hg := heap_alloc_new w2 (.cells #[.int .i64 fc, .int .i64 fa] 28)
  obtain ⟨G2, hG2⟩ : ∃ g, w2.heap.size = g := ⟨_, rfl⟩
  obtain ⟨W2, hW2⟩ : ∃ W, w2.alloc (.cells #[.int .i64 fc, .int .i64 fa] 28) = W := ⟨_, rfl⟩
  rw [hW2] at hbA hg
  have hbW := hb2'.trans (hbA.mono hb2'.size)
  have S2 := rtmpl_any ao n cap b groups aT nT cT T W2 (HB.out.below hbW) (HT.out.below hbW) hn
  rw [HR.out] at S2
  have HG3 : Hid (BS W2 ga n gc b) := HG2.out.below hbA
  have HF : Hid (W2.heap[G2]? = some (.cells #[.int .i64 fc, .int .i64 fa] 28 (0, 0))) := by rw [← hG2]; exact hg
  have HBW : Hid (Below w.heap.size w W2) := hbW
  clear S1 HG1 HG2 hb2 hb1 hb2' hbA hbW hg
  have HWE : Hid (_ = W2) := hW2
  have HGE : Hid (_ = G2) := hG2
  clear hW2 hG2
  go_wp2_with fail
  rw [HWE.out, HGE.out]
  clear HWE HGE
  refine S2.mono ?_
  rintro e w3 ⟨rfl, hb3⟩
  have hb3' := HBW.out.trans (hb3.mono HBW.out.size)
  have hbA : Below w3.heap.size w3 (w3.alloc (.cells #[.int .i64 fc, .int .i64 fa] 28)) := (Below.refl _ _).alloc (Nat.le_refl _) _
  have hg := heap_alloc_new w3 (.cells #[.int .i64 fc, .int .i64 fa] 28)
  have hf : w3.heap[G2]? = some (.cells #[.int .i64 fc, .int .i64 fa] 28 (0, 0)) := (hb3.block _ (Array.getElem?_eq_some_iff.1 HF.out).1).trans HF.out
  have hf2 := (hbA.block _ (Array.getElem?_eq_some_iff.1 hf).1).trans hf
  have HG4 := (HG3.out.below hb3).below hbA
  have hbW := hb3'.trans (hbA.mono hb3'.size)
  obtain ⟨G3, hG3⟩ : ∃ g, w3.heap.size = g := ⟨_, rfl⟩
  obtain ⟨W3, hW3⟩ : ∃ W, w3.alloc (.cells #[.int .i64 fc, .int .i64 fa] 28) = W := ⟨_, rfl⟩
  rw [hW3] at hbA hg hf2 HG4 hbW
  rw [hG3] at hg
  have SM := samep_any none none 0 0 0 [] W3 ⟨rfl, Nat.le_refl _, by omega, .inl rfl⟩ ⟨rfl, Nat.le_refl _, by omega, .inl rfl⟩
  have HG5 : Hid (BS W3 ga n gc b) := HG4
  have HB5 : Hid (Below w.heap.size w W3) := hbW
  have HF5 : Hid (W3.heap[G2]? = some (.cells #[.int .i64 fc, .int .i64 fa] 28 (0, 0)) ∧ W3.heap[G3]? = some (.cells #[.int .i64 fc, .int .i64 fa] 28 (0, 0))) := ⟨hf2, hg⟩
  clear S2 HG3 hb3 hb3' HBW hbA hg hf hf2 HG4 hbW HF
  have HWE : Hid (_ = W3) := hW3
  have HGE : Hid (_ = G3) := hG3
  clear hW3 hG3
  go_wp2_with fail
  rw [HWE.out, HGE.out]
  clear HWE HGE
  refine SM.mono ?_
  rintro e w4 ⟨rfl, hb4⟩
  obtain ⟨f0, f1⟩ := HF5.out
  obtain ⟨p0, p1⟩ := fault_cells ((hb4.block _ (Array.getElem?_eq_some_iff.1 f0).1).trans f0)
  obtain ⟨q0, q1⟩ := fault_cells ((hb4.block _ (Array.getElem?_eq_some_iff.1 f1).1).trans f1)
  have hb4' := HB5.out.trans (hb4.mono HB5.out.size)
  have EQ := beq_same _ _ _ w4 (HG5.out.below hb4).bts (HB.out.below hb4').bts
  have AW := awake_any w4
  have HB6 : Hid (Below w.heap.size w w4) := hb4'
  have hcc : (fc == fc) = true := by simp
  have hca : ((fa : Int) == (fa : Int)) = true := by simp
  clear SM HF5 HG5 HB5 f0 f1 hb4 hb4'
  go_wp2_with (first
    | (go_at_call 12; refine EQ.mono ?_; rintro e w' ⟨rfl, hw⟩; obtain rfl := hw.symm))
  go_loopw [46] (fun i wr => i = .int .i64 0 ∧ wr = w4) (fun i _ => 0)
  case atStart => exact ⟨rfl, rfl⟩
  case round =>
    obtain ⟨rfl, hw⟩ := hrel
    obtain rfl := hw.symm
    go_wp2_with (first
      | (go_at_call 12; refine EQ.mono ?_; rintro e w' ⟨rfl, hw⟩; obtain rfl := hw.symm)
      | (go_at_call 14; refine AW.mono ?_; rintro e w' ⟨rfl, hbel⟩))
    go_ret
    exact ⟨rfl, HB6.out.trans (Below.mono (by assumption) HB6.out.size)⟩

set_option maxHeartbeats 4000000 in
set_option maxRecDepth 100000 in
theorem template_ok (ao : Option Addr) (n cap : Nat) (b : List Int) (groups : Int) (aT : Option Addr) (nT cT : Nat) (T : List ByteArray) (w : World) (hB : BS w ao n cap b) (hT : TS w aT nT cT T) (hn : n ≤ 1048576) (ps : List Pt) (hR : tm b groups T (n + 1) 0 [] = .ok ps) :
    Calls Try.prog 3 #[.slice ao n cap, .int .i64 groups, .slice aT nT cT] w fun e w' => e = .returned (.bool true) ∧ Below w.heap.size w w' := by
  have C := clone_any ao n cap b w hB (by omega)
  have HBY : Hid (∀ p ∈ ps, Byt p.1) := tm_byt b hB.rg groups T (n + 1) 0 [] ps (fun p h => by cases h) hR
  have HB : Hid (BS w ao n cap b) := hB
  have HT : Hid (TS w aT nT cT T) := hT
  have HR : Hid (tm b groups T (n + 1) 0 [] = .ok ps) := hR
  clear hB hT hR
  go_enter Try.func3, Try.ntmps3
  go_wp2_with fail
  refine C.mono ?_
  rintro e w1 ⟨gv, rfl, hO, hb1⟩
  obtain ⟨ga, gc, rfl, hG⟩ := hO.bs HB.out.rg
  rw [HB.out.len] at hG ⊢
  have HG1 : Hid (BS w1 ga n gc b) := hG
  have HB1 : Hid (Below w.heap.size w w1) := hb1
  have S1 := tmpl_any ga n gc b groups aT nT cT T w1 hG (HT.out.below hb1) hn
  rw [HR.out] at S1
  clear C hO hG
  go_wp2_with fail
  refine S1.mono ?_
  rintro e w2 ⟨⟨v1, qs, rfl, hP, hq⟩, hb2⟩
  have hby : ∀ q ∈ qs, Byt q.2.1 := fun q h => HBY.out q.2 (by rw [← hq]; exact List.mem_map.2 ⟨q, h, rfl⟩)
  obtain ⟨x1, z1, rfl, hV⟩ := hP.pv hby
  have hQ := hP.qv rfl
  have hql : qs.length = ps.length := by rw [← hq, List.length_map]
  rw [hq, hql] at hV
  rw [hql] at hQ ⊢
  have hVn := hV.nc
  have hVm := hV.cm
  have hb2' := hb1.trans (hb2.mono hb1.size)
  have hbA : Below w2.heap.size w2 (w2.alloc (.cells #[.int .i64 0, .int .i64 0] 28)) := (Below.refl _ _).alloc (Nat.le_refl _) _
  have hg := heap_alloc_new w2 (.cells #[.int .i64 0, .int .i64 0] 28)
  have hV2 := hV.below hbA
  have hQ2 := hQ.below hbA
  have hb12 := hb2.trans (hbA.mono hb2.size)
  obtain ⟨G2, hG2⟩ : ∃ g, w2.heap.size = g := ⟨_, rfl⟩
  obtain ⟨W2, hW2⟩ : ∃ W, w2.alloc (.cells #[.int .i64 0, .int .i64 0] 28) = W := ⟨_, rfl⟩
  rw [hW2] at hbA hg hV2 hQ2 hb12
  have hbW := hb2'.trans (hbA.mono hb2'.size)
  have S2 := rtmpl_any ao n cap b groups aT nT cT T W2 (HB.out.below hbW) (HT.out.below hbW) hn
  rw [HR.out] at S2
  have HF : Hid (W2.heap[G2]? = some (.cells #[.int .i64 0, .int .i64 0] 28 (0, 0))) := by rw [← hG2]; exact hg
  have H12 : Hid (Below w1.heap.size w1 W2) := hb12
  have HV2 : Hid (PV W2 x1 ps.length z1 ps) := hV2
  have HQ2 : Hid (QV W2 w1.heap.size x1 ps.length z1) := hQ2
  clear S1 hb2 hb1 hb2' hbA hbW hg hV hQ hV2 hQ2 hP hq hql hby hb12
  have HWE : Hid (_ = W2) := hW2
  have HGE : Hid (_ = G2) := hG2
  clear hW2 hG2
  go_wp2_with fail
  rw [HWE.out, HGE.out]
  clear HWE HGE
  refine S2.mono ?_
  rintro e w3 ⟨⟨v2, rs, rfl, hP, hq⟩, hb3⟩
  have hby : ∀ q ∈ rs, Byt q.2.1 := fun q h => HBY.out q.2 (by rw [← hq]; exact List.mem_map.2 ⟨q, h, rfl⟩)
  obtain ⟨x2, z2, rfl, hU⟩ := hP.pv hby
  have hql : rs.length = ps.length := by rw [← hq, List.length_map]
  rw [hq, hql] at hU
  rw [hql]
  have hbA : Below w3.heap.size w3 (w3.alloc (.cells #[.int .i64 0, .int .i64 0] 28)) := (Below.refl _ _).alloc (Nat.le_refl _) _
  have hg := heap_alloc_new w3 (.cells #[.int .i64 0, .int .i64 0] 28)
  have hf : w3.heap[G2]? = some (.cells #[.int .i64 0, .int .i64 0] 28 (0, 0)) := (hb3.block _ (Array.getElem?_eq_some_iff.1 HF.out).1).trans HF.out
  have hf2 := (hbA.block _ (Array.getElem?_eq_some_iff.1 hf).1).trans hf
  have h13 := H12.out.trans (hb3.mono H12.out.size)
  have h13' := h13.trans (hbA.mono h13.size)
  have hU3 := hU.below hbA
  have hV3 := (HV2.out.below hb3).below hbA
  have hQ3 := (HQ2.out.below hb3).below hbA
  obtain ⟨G3, hG3⟩ : ∃ g, w3.heap.size = g := ⟨_, rfl⟩
  obtain ⟨W3, hW3⟩ : ∃ W, w3.alloc (.cells #[.int .i64 0, .int .i64 0] 28) = W := ⟨_, rfl⟩
  rw [hW3] at hg hf2 h13' hU3 hV3 hQ3
  rw [hG3] at hg
  have SM := samep_any x1 x2 ps.length z1 z2 ps W3 hV3 hU3
  have HQ3 : Hid (QV W3 w1.heap.size x1 ps.length z1) := hQ3
  have H13 : Hid (Below w1.heap.size w1 W3) := h13'
  have HF5 : Hid (W3.heap[G2]? = some (.cells #[.int .i64 0, .int .i64 0] 28 (0, 0)) ∧ W3.heap[G3]? = some (.cells #[.int .i64 0, .int .i64 0] 28 (0, 0))) := ⟨hf2, hg⟩
  clear S2 hb3 hbA hg hf hf2 HF hU hU3 hV3 hQ3 hP hq hql hby h13 h13' HV2 HQ2 H12
  generalize ps.length = N at *
  have HWE : Hid (_ = W3) := hW3
  have HGE : Hid (_ = G3) := hG3
  clear hW3 hG3
  go_wp2_with fail
  rw [HWE.out, HGE.out]
  clear HWE HGE
  refine SM.mono ?_
  rintro e w4 ⟨rfl, hb4⟩
  obtain ⟨f0, f1⟩ := HF5.out
  obtain ⟨p0, p1⟩ := fault_cells ((hb4.block _ (Array.getElem?_eq_some_iff.1 f0).1).trans f0)
  obtain ⟨q0, q1⟩ := fault_cells ((hb4.block _ (Array.getElem?_eq_some_iff.1 f1).1).trans f1)
  have h14 := H13.out.trans (hb4.mono H13.out.size)
  have H14 : Hid (Below w1.heap.size w1 w4) := h14
  have HQ4 : Hid (QV w4 w1.heap.size x1 N z1) := HQ3.out.below hb4
  have EQ := beq_same _ _ _ w4 (HG1.out.below h14).bts (HB.out.below (HB1.out.trans (h14.mono HB1.out.size))).bts
  clear SM HF5 HQ3 H13 f0 f1 hb4 h14
  go_wp2_with (first
    | (go_at_call 12; refine EQ.mono ?_; rintro e w' ⟨rfl, hw⟩; obtain rfl := hw.symm))
  go_loopw [46] (fun i wr => ∃ k : Nat, k ≤ N ∧ i = .int .i64 k ∧ Hid (QV wr w1.heap.size x1 N z1) ∧ Hid (Below w1.heap.size w1 wr)) (fun i _ => N - (intOf i).toNat)
  case atStart => exact ⟨0, Nat.zero_le _, rfl, HQ4, H14⟩
  case round =>
    clear HQ4 H14 EQ p0 p1 q0 q1
    obtain ⟨k, hk, rfl, HQ, HW⟩ := hrel
    have hsz := HW.out.size
    by_cases hlt : k < N
    · rcases HQ.out.cell with h0 | ⟨g, rfl, hc⟩
      · omega
      · obtain ⟨a, m, c, A, c0, c1, hm, ht⟩ := hc k hlt
        have hgl := World.block_lt_of_cell? wr _ c0
        simp only at hgl
        have hb2 : ∀ o o', Below wr.heap.size wr ((wr.alloc o).alloc o') := fun o o' => ((Below.refl _ wr).alloc (Nat.le_refl _) o).alloc (by simp) o'
        have SP : Hid (∀ o, Calls Try.prog 13 #[.slice (some ⟨wr.heap.size + 1, 0, none⟩) 1 1] ((wr.alloc o).alloc (.cells #[.slice a m c] 22)) fun e w' => e = .returned (.tuple #[]) ∧ Below w1.heap.size ((wr.alloc o).alloc (.cells #[.slice a m c] 22)) w' ∧ Spl ((wr.alloc o).alloc (.cells #[.slice a m c] 22)) w') := fun o =>
          spoil2_any w1.heap.size _ 1 1 _ (sv_one (c := c) hm ht _ (hb2 _ _) (by simp))
        have HN : Hid (∀ o o' w', Below w1.heap.size ((wr.alloc o).alloc o') w' → Spl ((wr.alloc o).alloc o') w' → QV w' w1.heap.size (some ⟨g, 0, none⟩) N z1 ∧ Below w1.heap.size w1 w') := fun o o' w' hb hs =>
          ⟨(HQ.out.below (hb2 o o')).spl hs, (HW.out.trans ((hb2 o o').mono hsz)).trans hb⟩
        have hlt' : (k : Int) < (N : Int) := by omega
        clear hc ht HQ HW hb2
        go_wp2_with fail
        refine (SP.out _).mono ?_
        rintro e w5 ⟨rfl, hb5, hs5⟩
        have R := HN.out _ _ _ hb5 hs5
        have R1 : Hid (QV w5 w1.heap.size (some ⟨g, 0, none⟩) N z1) := R.1
        have R2 : Hid (Below w1.heap.size w1 w5) := R.2
        clear hb5 hs5 R SP HN
        go_wp2
        go_roundw
        case rel => exact ⟨k + 1, by omega, by go_num, R1, R2⟩
        case measure => simp [intOf]; omega
    · obtain rfl : k = N := by omega
      have hW := HB1.out.trans (HW.out.mono HB1.out.size)
      have EQ := beq_same _ _ _ wr (HG1.out.below HW.out).bts (HB.out.below hW).bts
      have AW := awake_any wr
      have HB6 : Hid (Below w.heap.size w wr) := hW
      clear hW HQ HW
      go_wp2_with (first
        | (go_at_call 12; refine EQ.mono ?_; rintro e w' ⟨rfl, hw⟩; obtain rfl := hw.symm)
        | (go_at_call 14; refine AW.mono ?_; rintro e w' ⟨rfl, hbel⟩))
      go_ret
      exact ⟨rfl, HB6.out.trans (Below.mono (by assumption) HB6.out.size)⟩
theorem template_walk (ao : Option Addr) (n cap : Nat) (b : List Int) (groups : Int) (aT : Option Addr) (nT cT : Nat) (T : List ByteArray) (w : World) (hB : BS w ao n cap b) (hT : TS w aT nT cT T) (hn : n ≤ 1048576) (hnT : nT ≤ 1048576) :
    Calls Try.prog 3 #[.slice ao n cap, .int .i64 groups, .slice aT nT cT] w fun e w' => e = .returned (.bool true) ∧ Below w.heap.size w w' := by
  cases h : tm b groups T (n + 1) 0 [] with
  | no c a => exact template_no ao n cap b groups aT nT cT T w hB hT hn c a h
  | ok ps => exact template_ok ao n cap b groups aT nT cT T w hB hT hn ps h
end Go.Proofs.Ytfnndnlhdfjggaa.edt
