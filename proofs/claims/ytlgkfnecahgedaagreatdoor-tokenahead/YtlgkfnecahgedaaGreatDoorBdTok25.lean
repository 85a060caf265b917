/- Texts that the proof leans on, one behind the other. -/
import Derived.Test.YtlgkfnecahgedaaGreatDoorBdTok24
import Derived.Lib.ConvBytes
import Derived.Test.YtlgkfnecahgedaaGreatDoorBdTok11
import Derived.Test.YtlgkfnecahgedaaGreatDoorBdTok10

section
/- TokenProps: a property's token says the value, and whether not. -/
set_option linter.unusedVariables false
set_option linter.unusedSimpArgs false
namespace Go.Proofs.YtlgkfnecahgedaaGreatDoor.tok
open Go.RowKit
open lin (BA Turns)

/-- A string's bytes as numbers. -/
def sf (X : ByteArray) : Nat → Int := fun i => ((X.data.toList.getD i 0).toNat : Int)
theorem sf_in (X : ByteArray) : ∀ i, 0 ≤ sf X i ∧ sf X i ≤ 255 := fun i => by
  unfold sf
  have := UInt8.toNat_lt (X.data.toList.getD i 0)
  omega
/-- A string as new bytes. -/
theorem conv_str (w : World) (X : ByteArray) (hX : X.size ≤ 9223372036854775807) : ∃ W cp, (convert 9 22 (.string X)).run Tryz.prog w = .ok (.slice (some ⟨w.heap.size, 0, none⟩) X.size cp) W ∧ utf.IsB W (some ⟨w.heap.size, 0, none⟩) X.size (sf X) ∧ X.size ≤ cp ∧ cp ≤ 9223372036854775807 ∧ Below w.heap.size w W := by
  refine ⟨_, _, Lib.run_convert_string_bytes (P := Tryz.prog) w 9 22 5 X Tryz.underlying9 Tryz.underlying22 Tryz.underlying5, .inr ⟨_, _, rfl, fun i hi => ?_⟩, grownCap_ge w _ _ _, ?_, ⟨rfl, rfl, rfl, by rw [Lib.bytesWorld_size]; omega, fun k hk => Lib.bytesWorld_at_old w _ X k hk⟩⟩
  · rw [Nat.zero_add]; exact Lib.bytesWorld_cell w _ X i hi
  · have := grownCap_le_maxLen w X.size 0 5 (by unfold maxLen; omega)
    unfold maxLen at this
    omega
theorem props_first (f : Nat → Int) (n : Nat) (neg : Bool) (h0 : f 0 = 92) (h1 : f 1 = if neg = true then 80 else 112) (hn : 2 ≤ n) : (scanL f n).1 = [] ∨ ∃ t L, (scanL f n).1 = t :: L ∧ t.kind = 8 ∧ t.neg = neg := by
  by_cases hs : n ≤ 2000
  · rw [scanL_A f n hs]
    have ht := token_low f n 0 (by omega : 0 ≤ f 0) (by omega) (by omega : 0 < n)
    rw [if_pos h0] at ht
    have he : ∃ o : Out (List UInt8), escape f n 0 (0 + 1) 0 = o.bind fun s a => .ok (prop s neg) a := by
      unfold escape
      cases neg
      · simp only [Bool.false_eq_true, if_false] at h1
        rw [point_low (r := 112) (by decide) (by decide) (by omega) h1, bind_ok]
        exact ⟨expr f n 0 2, by simp⟩
      · simp only [if_true] at h1
        rw [point_low (r := 80) (by decide) (by decide) (by omega) h1, bind_ok]
        exact ⟨expr f n 0 2, by simp⟩
    obtain ⟨o, he⟩ := he
    rw [he] at ht
    cases o with
    | no c p => left; rw [scanA_no f n (c := c) (p := p) (ht.trans rfl) (by omega)]
    | ok s a =>
      right
      rw [scanA_ok f n (t := (prop s neg, 0)) (a' := a) (ht.trans rfl) (by omega)]
      exact ⟨_, _, rfl, rfl, rfl⟩
  · left; unfold scanL; rw [if_neg hs]
set_option maxHeartbeats 2000000 in
set_option maxRecDepth 100000 in
theorem props_false (name : ByteArray) (hns : name.size ≤ 140737488355327) (w : World) (hm : utf.Marks w) :
    Calls Tryz.prog 7 #[.string name, .bool false] w fun e w' => e = .returned (.bool true) ∧ Below w.heap.size w w' := by
  have HM : Hid (utf.Marks w) := hm
  have s1 : ByteArray.size ⟨#[92, 112, 123]⟩ = 3 := rfl
  have s2 : ByteArray.size ⟨#[92, 80, 123]⟩ = 3 := rfl
  have s3 : ByteArray.size ⟨#[125]⟩ = 1 := rfl
  obtain ⟨Y1, hY1⟩ : ∃ Y, (⟨#[92, 112, 123]⟩ : ByteArray) ++ name = Y := ⟨_, rfl⟩
  have d1 : Y1.size = name.size + 3 := by rw [← hY1, ByteArray.size_append]; show 3 + name.size = _; omega
  obtain ⟨Z1, hZ1⟩ : ∃ Y, Y1 ++ (⟨#[125]⟩ : ByteArray) = Y := ⟨_, rfl⟩
  have e1 : Z1.size = name.size + 4 := by rw [← hZ1, ByteArray.size_append, d1]; rfl
  obtain ⟨Y2, hY2⟩ : ∃ Y, (⟨#[92, 80, 123]⟩ : ByteArray) ++ name = Y := ⟨_, rfl⟩
  have d2 : Y2.size = name.size + 3 := by rw [← hY2, ByteArray.size_append]; show 3 + name.size = _; omega
  obtain ⟨Z2, hZ2⟩ : ∃ Y, Y2 ++ (⟨#[125]⟩ : ByteArray) = Y := ⟨_, rfl⟩
  have e2 : Z2.size = name.size + 4 := by rw [← hZ2, ByteArray.size_append, d2]; rfl
  have hX0 : sf Z1 0 = 92 ∧ sf Z1 1 = if false = true then 80 else 112 := by
    unfold sf
    rw [← hZ1, ← hY1]
    simp [ByteArray.data_append, List.getD]
  obtain ⟨X, hX⟩ : ∃ X, Z1 = X := ⟨_, rfl⟩
  rw [hX] at hX0 hZ1 e1
  clear hX
  obtain ⟨N, hN⟩ : ∃ N, X.size = N := ⟨_, rfl⟩
  rw [hN] at e1
  have hNb : N ≤ 140737488355331 := by omega
  have HPF := props_first (sf X) N false hX0.1 hX0.2 (by omega)
  clear e1
  have HSC : Hid (∀ (ao' : Option Addr) (cap' : Nat) W, utf.IsB W ao' N (sf X) → utf.Marks W → N ≤ cap' → cap' ≤ 9223372036854775807 → Calls Tryz.prog 9 #[.slice ao' N cap'] W fun e w' => ∃ tv, e = .returned (.tuple #[tv, .agg #[.int .i64 (scanL (sf X) N).2.1, .int .i64 (scanL (sf X) N).2.2]]) ∧ w'.ownsRow W.heap.size 32 8 tv (scanL (sf X) N).1.length (flatT (scanL (sf X) N).1) ∧ Below W.heap.size W w') := fun ao' cap' W h1 h2 h3 h4 => scan_any ao' N cap' (sf X) W h1 h2 (sf_in X) h3 h4
  have HRC : Hid (∀ (ao' : Option Addr) (cap' : Nat) W, utf.IsB W ao' N (sf X) → N ≤ cap' → cap' ≤ 9223372036854775807 → Calls Tryz.prog 10 #[.slice ao' N cap'] W fun e w' => ∃ tv, e = .returned (.tuple #[tv, .agg #[.int .i64 (scanL (sf X) N).2.1, .int .i64 (scanL (sf X) N).2.2]]) ∧ w'.ownsRow W.heap.size 32 8 tv (scanL (sf X) N).1.length (flatT (scanL (sf X) N).1) ∧ Below W.heap.size W w') := fun ao' cap' W h1 h3 h4 => rscan_any ao' N cap' (sf X) W h1 (sf_in X) h3 h4
  have hLs := scanL_small (sf X) N
  generalize scanL (sf X) N = Q at *
  obtain ⟨L, q, p⟩ := Q
  simp only [] at HSC HRC hLs HPF
  have HPF : Hid (L = [] ∨ ∃ t L', L = t :: L' ∧ t.kind = 8 ∧ t.neg = false) := HPF
  have CVX : Hid (∀ W : World, ∃ W' cp, (convert 9 22 (.string X)).run Tryz.prog W = .ok (.slice (some ⟨W.heap.size, 0, none⟩) N cp) W' ∧ utf.IsB W' (some ⟨W.heap.size, 0, none⟩) N (sf X) ∧ N ≤ cp ∧ cp ≤ 9223372036854775807 ∧ Below W.heap.size W W') := fun W => by have := conv_str W X (by omega); rw [hN] at this; exact this
  obtain ⟨W0, cp0, CV0, IB0, hcp0, hcq0, b0⟩ := CVX.out w
  have C2 := HSC.out _ _ W0 IB0 (HM.out.below b0) hcp0 hcq0
  have HB0 : Hid (Below w.heap.size w W0) := b0
  clear hX0 hm IB0 b0 HSC
  go_enter Tryz.func7, Tryz.ntmps7
  go_wp2_with fail
  clear hY1 hY2 hZ1 hZ2 CV0
  refine C2.mono ?_
  rintro e w2 ⟨v1, rfl, ho1, hb2⟩
  clear C2
  obtain ⟨ta, tc, rfl, htc, hv⟩ := tok_view ho1
  obtain ⟨W2, hW2⟩ : ∃ W, w2.alloc (.cells #[.int .i64 q, .int .i64 (p : Int)] 27) = W := ⟨_, rfl⟩
  have b2 : Below w2.heap.size w2 W2 := by rw [← hW2]; exact (Below.refl _ _).alloc (Nat.le_refl _) _
  have HG2 : Hid (W2.heap[w2.heap.size]? = some (.cells #[.int .i64 q, .int .i64 (p : Int)] 27 (0, 0))) := by rw [Hid, ← hW2]; exact World.alloc_heap_new _ _
  have hB2 : Below w.heap.size w W2 := (HB0.out.trans (hb2.mono HB0.out.size)).trans (b2.mono (Nat.le_trans HB0.out.size hb2.size))
  have HO2 : Hid (W2.ownsRow W0.heap.size 32 8 (.slice ta L.length tc) L.length (flatT L)) := utf.own_below ho1 b2
  have HV : Hid (0 < L.length → ∃ g, ta = some ⟨g, 0, none⟩ ∧ W0.heap.size ≤ g ∧ g < w2.heap.size ∧ ∀ i t, L[i]? = some t → TkAt w2 g (i * 8) t) := hv
  have HBW2 : Hid (Below w2.heap.size w2 W2) := b2
  obtain ⟨W5, cp2, CV2, IB2, hcp2, hcq2, b5⟩ := CVX.out W2
  have C3 := HRC.out _ _ W5 IB2 hcp2 hcq2
  have HB25 : Hid (Below W2.heap.size W2 W5) := b5
  have HB2 : Hid (Below w.heap.size w W2) := hB2
  clear ho1 hb2 hB2 b2 HRC hv IB2 b5 CVX hcp0 hcq0 htc
  go_wp2_with fail
  clear hW2 CV2
  refine C3.mono ?_
  rintro e w3 ⟨v2, rfl, ho3, hb3⟩
  clear C3
  obtain ⟨W3, hW3⟩ : ∃ W, w3.alloc (.cells #[.int .i64 q, .int .i64 (p : Int)] 27) = W := ⟨_, rfl⟩
  have b3 : Below w3.heap.size w3 W3 := by rw [← hW3]; exact (Below.refl _ _).alloc (Nat.le_refl _) _
  have G3 : W3.heap[w3.heap.size]? = some (.cells #[.int .i64 q, .int .i64 (p : Int)] 27 (0, 0)) := by rw [← hW3]; exact World.alloc_heap_new _ _
  have b53 : Below W5.heap.size W5 W3 := hb3.trans (b3.mono hb3.size)
  have b23 : Below W2.heap.size W2 W3 := HB25.out.trans (b53.mono HB25.out.size)
  have G23 := (b23.block _ (Array.getElem?_eq_some_iff.1 HG2.out).1).trans HG2.out
  obtain ⟨g0, g1, -, -⟩ := nam.blk2 G23
  obtain ⟨y0, y1, -, -⟩ := nam.blk2 G3
  have HB3 : Hid (Below w.heap.size w W3) := HB2.out.trans (b23.mono HB2.out.size)
  have HB23 : Hid (Below W2.heap.size W2 W3) := b23
  have C4 := tequal_own W3 (by omega) (utf.own_below HO2.out b23) (utf.own_below ho3 b3)
  clear HO2 HG2 HB2 ho3 hb3 b3 G3 b23 G23 b53 HB25
  go_wp2_with fail
  clear hW3
  refine C4.mono ?_
  rintro e w4 ⟨rfl, hb4⟩
  clear C4 g0 g1 y0 y1
  have hb4' := HB3.out.trans (hb4.mono HB3.out.size)
  have AW := awake_any w4 (HM.out.below hb4')
  have HB4 : Hid (Below w.heap.size w w4) := hb4'
  rcases HPF.out with rfl | ⟨t, L', rfl, hk, hng⟩
  · clear HPF HV hb4 hb4'
    go_wp2_with fail
    refine AW.mono ?_
    rintro e w' ⟨rfl, hbel⟩
    go_wp2
    go_ret
    exact ⟨rfl, HB4.out.trans (hbel.mono HB4.out.size)⟩
  · obtain ⟨g, rfl, -, hgl, hat⟩ := HV.out (by simp)
    have A4 := (((hat 0 t rfl).below HBW2.out).below HB23.out).below hb4
    obtain ⟨t1, t2, t3, t4, t5, t6, t7, t8⟩ := t
    simp only [] at hk hng
    subst hk
    subst hng
    have a0 := A4.c0
    have a5 := A4.c5
    simp only [Nat.zero_mul, Nat.zero_add] at a0 a5
    have hl1 : ¬ ((L'.length : Int) + 1 = 0) := by omega
    have hl2 : (((L'.length : Int) + 1) == 0) = false := by simp; omega
    have hl3 : (0 : Int) < (L'.length : Int) + 1 := by omega
    clear HPF HV hat A4 hb4 hb4'
    go_wp2_with fail
    refine AW.mono ?_
    rintro e w' ⟨rfl, hbel⟩
    go_wp2
    go_ret
    exact ⟨rfl, HB4.out.trans (hbel.mono HB4.out.size)⟩
set_option maxHeartbeats 2000000 in
set_option maxRecDepth 100000 in
theorem props_true (name : ByteArray) (hns : name.size ≤ 140737488355327) (w : World) (hm : utf.Marks w) :
    Calls Tryz.prog 7 #[.string name, .bool true] w fun e w' => e = .returned (.bool true) ∧ Below w.heap.size w w' := by
  have HM : Hid (utf.Marks w) := hm
  have s1 : ByteArray.size ⟨#[92, 112, 123]⟩ = 3 := rfl
  have s2 : ByteArray.size ⟨#[92, 80, 123]⟩ = 3 := rfl
  have s3 : ByteArray.size ⟨#[125]⟩ = 1 := rfl
  obtain ⟨Y1, hY1⟩ : ∃ Y, (⟨#[92, 112, 123]⟩ : ByteArray) ++ name = Y := ⟨_, rfl⟩
  have d1 : Y1.size = name.size + 3 := by rw [← hY1, ByteArray.size_append]; show 3 + name.size = _; omega
  obtain ⟨Z1, hZ1⟩ : ∃ Y, Y1 ++ (⟨#[125]⟩ : ByteArray) = Y := ⟨_, rfl⟩
  have e1 : Z1.size = name.size + 4 := by rw [← hZ1, ByteArray.size_append, d1]; rfl
  obtain ⟨Y2, hY2⟩ : ∃ Y, (⟨#[92, 80, 123]⟩ : ByteArray) ++ name = Y := ⟨_, rfl⟩
  have d2 : Y2.size = name.size + 3 := by rw [← hY2, ByteArray.size_append]; show 3 + name.size = _; omega
  obtain ⟨Z2, hZ2⟩ : ∃ Y, Y2 ++ (⟨#[125]⟩ : ByteArray) = Y := ⟨_, rfl⟩
  have e2 : Z2.size = name.size + 4 := by rw [← hZ2, ByteArray.size_append, d2]; rfl
  have hX0 : sf Z2 0 = 92 ∧ sf Z2 1 = if true = true then 80 else 112 := by
    unfold sf
    rw [← hZ2, ← hY2]
    simp [ByteArray.data_append, List.getD]
  obtain ⟨X, hX⟩ : ∃ X, Z2 = X := ⟨_, rfl⟩
  rw [hX] at hX0 hZ2 e2
  clear hX
  obtain ⟨N, hN⟩ : ∃ N, X.size = N := ⟨_, rfl⟩
  rw [hN] at e2
  have hNb : N ≤ 140737488355331 := by omega
  have HPF := props_first (sf X) N true hX0.1 hX0.2 (by omega)
  clear e2
  have HSC : Hid (∀ (ao' : Option Addr) (cap' : Nat) W, utf.IsB W ao' N (sf X) → utf.Marks W → N ≤ cap' → cap' ≤ 9223372036854775807 → Calls Tryz.prog 9 #[.slice ao' N cap'] W fun e w' => ∃ tv, e = .returned (.tuple #[tv, .agg #[.int .i64 (scanL (sf X) N).2.1, .int .i64 (scanL (sf X) N).2.2]]) ∧ w'.ownsRow W.heap.size 32 8 tv (scanL (sf X) N).1.length (flatT (scanL (sf X) N).1) ∧ Below W.heap.size W w') := fun ao' cap' W h1 h2 h3 h4 => scan_any ao' N cap' (sf X) W h1 h2 (sf_in X) h3 h4
  have HRC : Hid (∀ (ao' : Option Addr) (cap' : Nat) W, utf.IsB W ao' N (sf X) → N ≤ cap' → cap' ≤ 9223372036854775807 → Calls Tryz.prog 10 #[.slice ao' N cap'] W fun e w' => ∃ tv, e = .returned (.tuple #[tv, .agg #[.int .i64 (scanL (sf X) N).2.1, .int .i64 (scanL (sf X) N).2.2]]) ∧ w'.ownsRow W.heap.size 32 8 tv (scanL (sf X) N).1.length (flatT (scanL (sf X) N).1) ∧ Below W.heap.size W w') := fun ao' cap' W h1 h3 h4 => rscan_any ao' N cap' (sf X) W h1 (sf_in X) h3 h4
  have hLs := scanL_small (sf X) N
  generalize scanL (sf X) N = Q at *
  obtain ⟨L, q, p⟩ := Q
  simp only [] at HSC HRC hLs HPF
  have HPF : Hid (L = [] ∨ ∃ t L', L = t :: L' ∧ t.kind = 8 ∧ t.neg = true) := HPF
  have CVX : Hid (∀ W : World, ∃ W' cp, (convert 9 22 (.string X)).run Tryz.prog W = .ok (.slice (some ⟨W.heap.size, 0, none⟩) N cp) W' ∧ utf.IsB W' (some ⟨W.heap.size, 0, none⟩) N (sf X) ∧ N ≤ cp ∧ cp ≤ 9223372036854775807 ∧ Below W.heap.size W W') := fun W => by have := conv_str W X (by omega); rw [hN] at this; exact this
  obtain ⟨W0, cp0, CV0, IB0, hcp0, hcq0, b0⟩ := CVX.out w
  have C2 := HSC.out _ _ W0 IB0 (HM.out.below b0) hcp0 hcq0
  have HB0 : Hid (Below w.heap.size w W0) := b0
  clear hX0 hm IB0 b0 HSC
  go_enter Tryz.func7, Tryz.ntmps7
  go_wp2_with fail
  clear hY1 hY2 hZ1 hZ2 CV0
  refine C2.mono ?_
  rintro e w2 ⟨v1, rfl, ho1, hb2⟩
  clear C2
  obtain ⟨ta, tc, rfl, htc, hv⟩ := tok_view ho1
  obtain ⟨W2, hW2⟩ : ∃ W, w2.alloc (.cells #[.int .i64 q, .int .i64 (p : Int)] 27) = W := ⟨_, rfl⟩
  have b2 : Below w2.heap.size w2 W2 := by rw [← hW2]; exact (Below.refl _ _).alloc (Nat.le_refl _) _
  have HG2 : Hid (W2.heap[w2.heap.size]? = some (.cells #[.int .i64 q, .int .i64 (p : Int)] 27 (0, 0))) := by rw [Hid, ← hW2]; exact World.alloc_heap_new _ _
  have hB2 : Below w.heap.size w W2 := (HB0.out.trans (hb2.mono HB0.out.size)).trans (b2.mono (Nat.le_trans HB0.out.size hb2.size))
  have HO2 : Hid (W2.ownsRow W0.heap.size 32 8 (.slice ta L.length tc) L.length (flatT L)) := utf.own_below ho1 b2
  have HV : Hid (0 < L.length → ∃ g, ta = some ⟨g, 0, none⟩ ∧ W0.heap.size ≤ g ∧ g < w2.heap.size ∧ ∀ i t, L[i]? = some t → TkAt w2 g (i * 8) t) := hv
  have HBW2 : Hid (Below w2.heap.size w2 W2) := b2
  obtain ⟨W5, cp2, CV2, IB2, hcp2, hcq2, b5⟩ := CVX.out W2
  have C3 := HRC.out _ _ W5 IB2 hcp2 hcq2
  have HB25 : Hid (Below W2.heap.size W2 W5) := b5
  have HB2 : Hid (Below w.heap.size w W2) := hB2
  clear ho1 hb2 hB2 b2 HRC hv IB2 b5 CVX hcp0 hcq0 htc
  go_wp2_with fail
  clear hW2 CV2
  refine C3.mono ?_
  rintro e w3 ⟨v2, rfl, ho3, hb3⟩
  clear C3
  obtain ⟨W3, hW3⟩ : ∃ W, w3.alloc (.cells #[.int .i64 q, .int .i64 (p : Int)] 27) = W := ⟨_, rfl⟩
  have b3 : Below w3.heap.size w3 W3 := by rw [← hW3]; exact (Below.refl _ _).alloc (Nat.le_refl _) _
  have G3 : W3.heap[w3.heap.size]? = some (.cells #[.int .i64 q, .int .i64 (p : Int)] 27 (0, 0)) := by rw [← hW3]; exact World.alloc_heap_new _ _
  have b53 : Below W5.heap.size W5 W3 := hb3.trans (b3.mono hb3.size)
  have b23 : Below W2.heap.size W2 W3 := HB25.out.trans (b53.mono HB25.out.size)
  have G23 := (b23.block _ (Array.getElem?_eq_some_iff.1 HG2.out).1).trans HG2.out
  obtain ⟨g0, g1, -, -⟩ := nam.blk2 G23
  obtain ⟨y0, y1, -, -⟩ := nam.blk2 G3
  have HB3 : Hid (Below w.heap.size w W3) := HB2.out.trans (b23.mono HB2.out.size)
  have HB23 : Hid (Below W2.heap.size W2 W3) := b23
  have C4 := tequal_own W3 (by omega) (utf.own_below HO2.out b23) (utf.own_below ho3 b3)
  clear HO2 HG2 HB2 ho3 hb3 b3 G3 b23 G23 b53 HB25
  go_wp2_with fail
  clear hW3
  refine C4.mono ?_
  rintro e w4 ⟨rfl, hb4⟩
  clear C4 g0 g1 y0 y1
  have hb4' := HB3.out.trans (hb4.mono HB3.out.size)
  have AW := awake_any w4 (HM.out.below hb4')
  have HB4 : Hid (Below w.heap.size w w4) := hb4'
  rcases HPF.out with rfl | ⟨t, L', rfl, hk, hng⟩
  · clear HPF HV hb4 hb4'
    go_wp2_with fail
    refine AW.mono ?_
    rintro e w' ⟨rfl, hbel⟩
    go_wp2
    go_ret
    exact ⟨rfl, HB4.out.trans (hbel.mono HB4.out.size)⟩
  · obtain ⟨g, rfl, -, hgl, hat⟩ := HV.out (by simp)
    have A4 := (((hat 0 t rfl).below HBW2.out).below HB23.out).below hb4
    obtain ⟨t1, t2, t3, t4, t5, t6, t7, t8⟩ := t
    simp only [] at hk hng
    subst hk
    subst hng
    have a0 := A4.c0
    have a5 := A4.c5
    simp only [Nat.zero_mul, Nat.zero_add] at a0 a5
    have hl1 : ¬ ((L'.length : Int) + 1 = 0) := by omega
    have hl2 : (((L'.length : Int) + 1) == 0) = false := by simp; omega
    have hl3 : (0 : Int) < (L'.length : Int) + 1 := by omega
    clear HPF HV hat A4 hb4 hb4'
    go_wp2_with fail
    refine AW.mono ?_
    rintro e w' ⟨rfl, hbel⟩
    go_wp2
    go_ret
    exact ⟨rfl, HB4.out.trans (hbel.mono HB4.out.size)⟩
theorem props_w (name : ByteArray) (neg : Bool) (w : World) (hns : name.size ≤ 140737488355327) (hm : utf.Marks w) : Calls Tryz.prog 7 #[.string name, .bool neg] w fun e w' => e = .returned (.bool true) ∧ Below w.heap.size w w' := by
  cases neg
  · exact props_false name hns w hm
  · exact props_true name hns w hm
end Go.Proofs.YtlgkfnecahgedaaGreatDoor.tok
end

section
/- A token that ends ahead of a place is the same in the bytes up to that place. Plain mathematics. -/
set_option linter.unusedVariables false
set_option linter.unusedSimpArgs false
namespace Go.Proofs.YtlgkfnecahgedaaGreatDoor.tok
open utf (it len it_end run run_end)

/-- A step that ends ahead of e comes to the same with fewer bytes. -/
def Cut {α : Type} (e : Nat) (o o' : Out α) : Prop := ∀ v a, o = .ok v a → a < e → o' = .ok v a
/-- What comes of a step stands no earlier than lo. -/
def Mono {α : Type} (lo : Nat) (o : Out α) : Prop := ∀ v a, o = .ok v a → lo ≤ a
theorem Mono.of {α : Type} {st lo n : Nat} {o : Out α} (h : In st lo n o) : Mono lo o := fun v a e => by rw [e] at h; exact h.1
theorem Mono.less {α : Type} {lo lo' : Nat} {o : Out α} (h : Mono lo o) (hl : lo' ≤ lo) : Mono lo' o := fun v a e => by have := h v a e; omega
theorem In.okBind {α β : Type} {st lo n : Nat} {o : Out α} (h : In st lo n o) (g : α → β) : Mono lo (o.bind fun v a => .ok (g v) a) := by
  intro u a' hu
  cases o with
  | ok v a => cases hu; exact h.1
  | no c p => cases hu
theorem Cut.bind {α β : Type} {e : Nat} {o o' : Out α} {g g' : α → Nat → Out β} (h1 : Cut e o o') (hm : ∀ v a, o = .ok v a → Mono a (g v a)) (h2 : ∀ v a, o = .ok v a → a < e → Cut e (g v a) (g' v a)) : Cut e (o.bind g) (o'.bind g') := by
  intro u a' hu ha
  cases ho : o with
  | no c p => rw [ho] at hu; cases hu
  | ok v a =>
    rw [ho, bind_ok] at hu
    have hle := hm v a ho u a' hu
    rw [h1 v a ho (by omega), bind_ok]
    exact h2 v a ho (by omega) u a' hu ha
theorem Cut.refl {α : Type} {e : Nat} {o : Out α} : Cut e o o := fun _ _ h _ => h
theorem Cut.ite {α : Type} {e : Nat} {c : Prop} [Decidable c] {x x' y y' : Out α} (hx : c → Cut e x x') (hy : ¬ c → Cut e y y') : Cut e (if c then x else y) (if c then x' else y') := by
  by_cases h : c
  · rw [if_pos h, if_pos h]; exact hx h
  · rw [if_neg h, if_neg h]; exact hy h
theorem Cut.no {α : Type} {e : Nat} {c : Int} {p : Nat} {o' : Out α} : Cut e (.no c p) o' := fun _ _ h _ => by cases h

section
variable (f : Nat → Int) (n e : Nat) (hen : e ≤ n)
theorem run_less (hen : e ≤ n) : ∀ k r x l h, (run f n k r x l h).2.2 = true → (run f n k r x l h).2.1 ≤ e → run f e k r x l h = run f n k r x l h := by
  intro k
  induction k with
  | zero => intro r x l h _ _; simp [run]
  | succ k ih =>
    intro r x l h h1 h2
    by_cases c : x < n ∧ l ≤ f x ∧ f x ≤ h
    · simp only [run, if_pos c] at h1 h2
      have := (run_end f n k (r * 64 + f x % 64) (x + 1) 128 191).1
      have c' : x < e ∧ l ≤ f x ∧ f x ≤ h := ⟨by omega, c.2⟩
      simp only [run, if_pos c, if_pos c']
      exact ih _ _ _ _ h1 h2
    · simp only [run, if_neg c] at h1
      exact absurd h1 (by decide)
theorem point_cut (hen : e ≤ n) (a : Nat) : Cut e (point f n a) (point f e a) := by
  intro r a' h ha
  have hv := point_val h
  unfold point at h ⊢
  rw [if_pos hv.1] at h
  rw [if_pos (by omega)]
  split at h
  · rename_i hg
    cases h
    have hi : it f e a = it f n a := by
      unfold it at *
      split
      · rfl
      · rename_i hs
        rw [if_neg hs] at hg ha
        exact run_less f n e hen _ _ _ _ _ hg (by omega)
    rw [hi, if_pos hg]
  · cases h
theorem octet_cut (hen : e ≤ n) (a : Nat) : Cut e (octet f n a) (octet f e a) := by
  intro c a' h ha
  unfold octet at *
  split at h
  · cases h; rw [if_pos (by omega)]
  · cases h
theorem at_cut (hen : e ≤ n) {a : Nat} (c : Int) (ha : a < e) : at_ f e a c = at_ f n a c := by
  unfold at_
  rw [decide_eq_true ha, decide_eq_true (show a < n by omega)]
theorem octet_mono (a : Nat) {c : Int} {a' : Nat} (h : octet f n a = .ok c a') : a' = a + 1 ∧ a < n := by
  unfold octet at h; split at h
  · rename_i hl; cases h; exact ⟨rfl, hl⟩
  · cases h
theorem want_cut (hen : e ≤ n) (st : Nat) (c : Int) (a : Nat) : Cut e (want f n st c a) (want f e st c a) := by
  unfold want
  refine (octet_cut f n e hen a).bind (fun v b h => ?_) (fun v b h hb => Cut.refl)
  split
  · intro u a' h; cases h; exact Nat.le_refl _
  · intro u a' h; cases h
theorem numR_cut (hen : e ≤ n) (st : Nat) (base : Int) (hs : st ≤ n) : ∀ left acc first a, st ≤ a → Cut e (numR f n st base left acc first a) (numR f e st base left acc first a) := by
  intro left
  induction left with
  | zero =>
    intro acc first a h
    rw [numR_step, numR_step]
    refine (octet_cut f n e hen a).bind (fun v b hb => ?_) (fun v b hb hl => Cut.refl)
    split
    · intro u a' h; cases h
    · split
      · intro u a' h; cases h
      · intro u a' h; cases h; exact Nat.le_refl _
  | succ left ih =>
    intro acc first a h
    rw [numR_step, numR_step]
    refine (octet_cut f n e hen a).bind (fun v b hb => ?_) (fun v b hb hl => ?_)
    · have hb2 := octet_mono f n a hb
      simp only []
      split
      · exact Mono.less (Mono.of (numR_in f n st base hs left _ _ b (by omega))) (by omega)
      · split
        · intro u a' h; cases h
        · intro u a' h; cases h; exact Nat.le_refl _
    · have hb2 := octet_mono f n a hb
      simp only []
      refine Cut.ite (fun _ => ih _ _ b (by omega)) (fun _ => Cut.refl)
theorem number_cut (hen : e ≤ n) (st : Nat) (base : Int) (most a : Nat) (hs : st ≤ n) (h : st ≤ a) : Cut e (number f n st base most a) (number f e st base most a) := numR_cut f n e hen st base hs most 0 true a h
theorem nmR_cut (hen : e ≤ n) (st b : Nat) (hs : st ≤ n) : ∀ left a, st ≤ a → Cut e (nmR f n st b left a) (nmR f e st b left a) := by
  intro left
  induction left with
  | zero =>
    intro a h
    rw [nmR_go, nmR_go]
    refine (octet_cut f n e hen a).bind (fun v c hc => ?_) (fun v c hc hl => Cut.refl)
    split
    · intro u a' h; cases h; exact Nat.le_refl _
    · intro u a' h; cases h
  | succ left ih =>
    intro a h
    rw [nmR_go, nmR_go]
    refine (octet_cut f n e hen a).bind (fun v c hc => ?_) (fun v c hc hl => ?_)
    · have hc2 := octet_mono f n a hc
      split
      · intro u a' h; cases h; exact Nat.le_refl _
      · unfold nmNext
        simp only []
        by_cases hh : nmC v (decide (a = b)) = true
        · rw [if_pos hh]; exact Mono.less (Mono.of (nmR_in f n st b hs left c (by omega))) (by omega)
        · rw [if_neg hh]; intro u a' h; cases h
    · have hc2 := octet_mono f n a hc
      refine Cut.ite (fun _ => Cut.refl) (fun _ => ?_)
      unfold nmNext
      exact Cut.ite (fun _ => ih c (by omega)) (fun _ => Cut.refl)
theorem name_cut (hen : e ≤ n) (st a : Nat) (hs : st ≤ n) (h : st ≤ a) : Cut e (name f n st a) (name f e st a) := nmR_cut f n e hen st a hs 20 a h
theorem exprR_cut (hen : e ≤ n) : ∀ m a, n - a ≤ m → Cut e (exprR f n (n + 1 - a) a) (exprR f e (e + 1 - a) a) := by
  intro m
  induction m with
  | zero =>
    intro a h
    rw [exprR_step, exprR_step]
    unfold point
    rw [if_neg (by omega)]
    exact Cut.no
  | succ m ih =>
    intro a h
    rw [exprR_step, exprR_step]
    refine (point_cut f n e hen a).bind (fun r b hb => ?_) (fun r b hb hl => ?_)
    · have hv := point_val hb
      split
      · intro u a' h; cases h; exact Nat.le_refl _
      · exact (Mono.of (exprR_in f n 0 (Nat.zero_le _) (n + 1 - b) b (Nat.zero_le _))).less (by omega)
    · have hv := point_val hb
      exact Cut.ite (fun _ => Cut.refl) (fun _ => ih b (by omega))
theorem meant_mono (st b x : Nat) : Mono x (meant f st b x) := by
  unfold meant; intro u a' h; split at h
  · cases h; exact Nat.le_refl _
  · cases h
theorem expr_cut (hen : e ≤ n) (st a : Nat) (hs : st ≤ n) (h : st ≤ a) : Cut e (expr f n st a) (expr f e st a) := by
  unfold expr
  refine (want_cut f n e hen st 123 a).bind (fun u b hb => ?_) (fun u b hb hl => ?_)
  · have hw := want_in f n st 123 a h hs
    rw [hb] at hw
    exact (Mono.of (((exprR_in f n st hs (n + 1 - b) b (by have := hw.1; omega)).weak (by omega : b ≤ b + 1)).bind fun u x h3 h4 => (meant_in f n st b x hs h4).weak h3))
  · refine (exprR_cut f n e hen (n - b) b (Nat.le_refl _)).bind (fun v x hx => meant_mono f st b x) (fun v x hx hl => Cut.refl)
theorem hex_cut (hen : e ≤ n) (st a : Nat) (hs : st ≤ n) (h : st ≤ a) : Cut e (hex f n st a) (hex f e st a) := by
  unfold hex
  refine (want_cut f n e hen st 123 a).bind (fun u b hb => ?_) (fun u b hb hl => ?_)
  · have hw := want_in f n st 123 a h hs
    rw [hb] at hw
    refine Mono.of (((number_in f n st 16 6 b hs (by have := hw.1; omega)).weak (by omega : b ≤ b + 1)).bind fun u x h3 h4 => ?_)
    split
    · exact ⟨h3, h4⟩
    · exact nope_in f n st _ hs
  · have hw := want_in f n st 123 a h hs
    rw [hb] at hw
    refine (number_cut f n e hen st 16 6 b hs (by have := hw.1; omega)).bind (fun q x hx => ?_) (fun q x hx hl => Cut.refl)
    split
    · intro u a' h; cases h; exact Nat.le_refl _
    · intro u a' h; cases h
theorem edge_cut (hen : e ≤ n) (st : Nat) (x y z : Int) (a : Nat) (hs : st ≤ n) (h : st ≤ a) : Cut e (edge f n st x y z a) (edge f e st x y z a) := by
  intro t a' ht ha
  have hm : Mono a (edge f n st x y z a) := by
    by_cases hl : a ≤ n
    · exact Mono.of (edge_in f n st x y z a hs h hl)
    · unfold edge
      rw [if_neg (by unfold at_; simp; omega)]
      intro u b hb; cases hb; exact Nat.le_refl _
  have hle := hm t a' ht
  have hae : a < e := by omega
  revert ht ha
  unfold edge
  rw [at_cut f n e hen 123 hae]
  have key : Cut e ((octet f n (a + 1)).bind fun c a => if c = 103 then (want f n st 125 a).bind fun _ a => .ok (asrt y) a else if c = 119 then (want f n st 125 a).bind fun _ a => .ok (asrt z) a else nope f st) ((octet f e (a + 1)).bind fun c a => if c = 103 then (want f e st 125 a).bind fun _ a => .ok (asrt y) a else if c = 119 then (want f e st 125 a).bind fun _ a => .ok (asrt z) a else nope f st) := by
    have W : ∀ b v, st ≤ b → Mono b ((want f n st 125 b).bind fun _ a => .ok (asrt v) a) := fun b v hb => Mono.less (In.okBind (want_in f n st 125 b hb hs) (fun _ => asrt v)) (by omega)
    refine (octet_cut f n e hen (a + 1)).bind (fun c b hb => ?_) (fun c b hb hl => ?_)
    · have hb2 := octet_mono f n (a + 1) hb
      split
      · exact W b y (by omega)
      · split
        · exact W b z (by omega)
        · intro u a' h; cases h
    · refine Cut.ite (fun _ => ?_) (fun _ => Cut.ite (fun _ => ?_) (fun _ => Cut.refl))
      all_goals exact (want_cut f n e hen st 125 b).bind (fun u x hx => by intro u' a' h; cases h; exact Nat.le_refl _) (fun _ _ _ _ => Cut.refl)
  intro ht ha
  by_cases hb : at_ f n a 123 = true
  · rw [if_pos hb] at ht ⊢; exact key t a' ht ha
  · rw [if_neg hb] at ht ⊢; exact ht
theorem back_cut (hen : e ≤ n) (st a : Nat) (hs : st ≤ n) (h : st ≤ a) : Cut e (back f n st a) (back f e st a) := by
  unfold back
  refine (octet_cut f n e hen a).bind (fun c b hb => ?_) (fun c b hb hl => ?_)
  · have hb2 := octet_mono f n a hb
    split
    · exact Mono.less (In.okBind (name_in f n st b hs (by omega)) (fun s => (⟨9, 0, 0, 0, s, false, 0, 0⟩ : Tk))) (by omega)
    · split
      · refine (Mono.of (((number_in f n st 10 2 b hs (by omega)).bind fun u x h3 h4 => ?_) : In st (b + 1) n _)).less (by omega)
        split
        · exact ⟨h3, h4⟩
        · exact nope_in f n st _ hs
      · intro u a' h; cases h
  · have hb2 := octet_mono f n a hb
    refine Cut.ite (fun _ => ?_) (fun _ => Cut.ite (fun _ => ?_) (fun _ => Cut.refl))
    · exact (name_cut f n e hen st b hs (by omega)).bind (fun u x hx => by intro u' a' h; cases h; exact Nat.le_refl _) (fun _ _ _ _ => Cut.refl)
    · refine (number_cut f n e hen st 10 2 b hs (by omega)).bind (fun u x hx => ?_) (fun _ _ _ _ => Cut.refl)
      split
      · intro u' a' h; cases h; exact Nat.le_refl _
      · intro u' a' h; cases h
theorem rep_mono (x y : Int) (a : Nat) : Mono a (rep f n x y a) := by
  unfold rep; intro u a' h; split at h
  · cases h; omega
  · split at h <;> (cases h; omega)
theorem rep_cut (hen : e ≤ n) (x y : Int) (a : Nat) : Cut e (rep f n x y a) (rep f e x y a) := by
  intro t a' ht ha
  have hle := rep_mono f n x y a t a' ht
  revert ht
  unfold rep
  rw [at_cut f n e hen 63 (by omega), at_cut f n e hen 43 (by omega)]
  exact id
theorem counted_cut (hen : e ≤ n) (st a : Nat) (hs : st ≤ n) (h : st ≤ a) : Cut e (counted f n st a) (counted f e st a) := by
  unfold counted
  refine (number_cut f n e hen st 10 3 a hs h).bind (fun q b hb => ?_) (fun q b hb hl => ?_)
  · have hw := number_in f n st 10 3 a hs h
    rw [hb] at hw
    have h1 := hw.1
    have h2 := hw.2
    split
    · split
      · exact (rep_mono f n _ _ _).less (by omega)
      · intro u a' h; cases h
    · split
      · refine (Mono.of (((number_in f n st 10 3 b hs (by omega)).bind fun p x h3 h4 => ?_) : In st (b + 1) n _)).less (by omega)
        split
        · exact (rep_in f n st _ _ x h4).weak h3
        · exact nope_in f n st _ hs
      · split
        · exact rep_mono f n _ _ _
        · intro u a' h; cases h
  · have hw := number_in f n st 10 3 a hs h
    rw [hb] at hw
    have h1 := hw.1
    rw [at_cut f n e hen 125 hl]
    refine Cut.ite (fun _ => Cut.ite (fun _ => rep_cut f n e hen _ _ _) (fun _ => Cut.refl)) (fun _ => Cut.ite (fun _ => ?_) (fun _ => Cut.ite (fun _ => rep_cut f n e hen _ _ _) (fun _ => Cut.refl)))
    refine (number_cut f n e hen st 10 3 b hs (by omega)).bind (fun p x hx => ?_) (fun p x hx hl => Cut.ite (fun _ => rep_cut f n e hen _ _ _) (fun _ => Cut.refl))
    split
    · exact rep_mono f n _ _ _
    · intro u a' h; cases h
theorem openLeft_mono (st a : Nat) (hs : st ≤ n) (h : st ≤ a) : Mono a (openLeft f n st a) := by
  unfold openLeft
  split
  · intro u a' h; cases h; omega
  · split
    · intro u a' h; cases h; omega
    · exact Mono.less (In.okBind (name_in f n st a hs h) (fun s => (⟨3, 2, 0, 0, s, false, 0, 0⟩ : Tk))) (by omega)
theorem openLeft_cut (hen : e ≤ n) (st a : Nat) (hs : st ≤ n) (h : st ≤ a) : Cut e (openLeft f n st a) (openLeft f e st a) := by
  intro t a' ht ha
  have hle := openLeft_mono f n st a hs h t a' ht
  revert ht
  unfold openLeft
  rw [at_cut f n e hen 61 (by omega), at_cut f n e hen 33 (by omega)]
  intro ht
  have key : Cut e ((name f n st a).bind fun s a => .ok (⟨3, 2, 0, 0, s, false, 0, 0⟩ : Tk) a) ((name f e st a).bind fun s a => .ok (⟨3, 2, 0, 0, s, false, 0, 0⟩ : Tk) a) :=
    (name_cut f n e hen st a hs h).bind (fun u x hx => by intro u' a' h; cases h; exact Nat.le_refl _) (fun _ _ _ _ => Cut.refl)
  by_cases h1 : at_ f n a 61 = true
  · rw [if_pos h1] at ht ⊢; exact ht
  · rw [if_neg h1] at ht ⊢
    by_cases h2 : at_ f n a 33 = true
    · rw [if_pos h2] at ht ⊢; exact ht
    · rw [if_neg h2] at ht ⊢; exact key t a' ht ha
theorem open_mono (st a : Nat) (hs : st ≤ n) (h : st ≤ a) : Mono a (open_ f n st a) := by
  unfold open_
  split
  · intro u a' hu
    cases ho : octet f n (a + 1) with
    | no c p => rw [ho] at hu; cases hu
    | ok c b =>
      have hb := octet_mono f n (a + 1) ho
      rw [ho, bind_ok] at hu
      by_cases h1 : c = 58
      · rw [if_pos h1] at hu; cases hu; omega
      rw [if_neg h1] at hu
      by_cases h2 : c = 61
      · rw [if_pos h2] at hu; cases hu; omega
      rw [if_neg h2] at hu
      by_cases h3 : c = 33
      · rw [if_pos h3] at hu; cases hu; omega
      rw [if_neg h3] at hu
      by_cases h4 : c = 62
      · rw [if_pos h4] at hu; cases hu; omega
      rw [if_neg h4] at hu
      by_cases h5 : c = 60
      · rw [if_pos h5] at hu; have := openLeft_mono f n st b hs (by omega) u a' hu; omega
      rw [if_neg h5] at hu; cases hu
  · intro u a' hu; cases hu; omega
theorem open_cut (hen : e ≤ n) (st a : Nat) (hs : st ≤ n) (h : st ≤ a) : Cut e (open_ f n st a) (open_ f e st a) := by
  intro t a' ht ha
  have hle := open_mono f n st a hs h t a' ht
  revert ht
  unfold open_
  rw [at_cut f n e hen 63 (by omega)]
  intro ht
  by_cases h1 : at_ f n a 63 = true
  · rw [if_pos h1] at ht ⊢
    refine (Cut.bind (octet_cut f n e hen (a + 1)) (fun c b hb => ?_) (fun c b hb hl => ?_)) t a' ht ha
    · have hb2 := octet_mono f n (a + 1) hb
      intro u x hu
      by_cases h1 : c = 58
      · rw [if_pos h1] at hu; cases hu; omega
      rw [if_neg h1] at hu
      by_cases h2 : c = 61
      · rw [if_pos h2] at hu; cases hu; omega
      rw [if_neg h2] at hu
      by_cases h3 : c = 33
      · rw [if_pos h3] at hu; cases hu; omega
      rw [if_neg h3] at hu
      by_cases h4 : c = 62
      · rw [if_pos h4] at hu; cases hu; omega
      rw [if_neg h4] at hu
      by_cases h5 : c = 60
      · rw [if_pos h5] at hu; exact openLeft_mono f n st b hs (by omega) u x hu
      rw [if_neg h5] at hu; cases hu
    · have hb2 := octet_mono f n (a + 1) hb
      exact Cut.ite (fun _ => Cut.refl) (fun _ => Cut.ite (fun _ => Cut.refl) (fun _ => Cut.ite (fun _ => Cut.refl) (fun _ => Cut.ite (fun _ => Cut.refl) (fun _ => Cut.ite (fun _ => openLeft_cut f n e hen st b hs (by omega)) (fun _ => Cut.refl)))))
  · rw [if_neg h1] at ht ⊢; exact ht
theorem class_cut (hen : e ≤ n) {a : Nat} : Cut e (class_ f n a) (class_ f e a) := by
  intro t a' ht ha
  have hle : a ≤ a' := by unfold class_ at ht; split at ht <;> (cases ht; omega)
  revert ht
  unfold class_
  rw [at_cut f n e hen 94 (by omega)]
  exact id
theorem with_cut {k : Nat} {o o' : Out Tk} (h : Cut e o o') : Cut e (o.with_ k) (o'.with_ k) :=
  h.bind (fun v a _ => by intro u a' h; cases h; exact Nat.le_refl _) (fun _ _ _ _ => Cut.refl)
theorem within_cut (hen : e ≤ n) (r : Int) (a k : Nat) : Cut e (within f n r a k) (within f e r a k) := by
  intro t a' ht ha
  by_cases h91 : r = 91
  · unfold within at *
    rw [if_pos h91] at *
    exact with_cut e (class_cut f n e hen) t a' ht ha
  · have hle : a ≤ a' := by
      unfold within at ht
      rw [if_neg h91] at ht
      (repeat' split at ht) <;> (cases ht; omega)
    revert ht
    unfold within
    rw [if_neg h91, if_neg h91, at_cut f n e hen 38 (by omega), at_cut f n e hen 45 (by omega), at_cut f n e hen 126 (by omega)]
    exact id
theorem mark_cut (hen : e ≤ n) (st : Nat) (r : Int) (a : Nat) (hs : st ≤ n) (h : st ≤ a) : Cut e (mark f n st r a) (mark f e st r a) := by
  unfold mark
  exact Cut.ite (fun _ => Cut.refl) (fun _ => Cut.ite (fun _ => Cut.refl) (fun _ => Cut.ite (fun _ => open_cut f n e hen st a hs h) (fun _ => Cut.ite (fun _ => Cut.refl) (fun _ => Cut.ite (fun _ => rep_cut f n e hen _ _ _) (fun _ => Cut.ite (fun _ => rep_cut f n e hen _ _ _) (fun _ => Cut.ite (fun _ => rep_cut f n e hen _ _ _) (fun _ => Cut.ite (fun _ => counted_cut f n e hen st a hs h) (fun _ => Cut.refl))))))))
theorem outside_cut (hen : e ≤ n) (st : Nat) (r : Int) (a k : Nat) (hs : st ≤ n) (h : st ≤ a) : Cut e (outside f n st r a k) (outside f e st r a k) := by
  unfold outside
  exact Cut.ite (fun _ => with_cut e (class_cut f n e hen)) (fun _ => with_cut e (mark_cut f n e hen st r a hs h))
theorem escOut_cut (hen : e ≤ n) (st : Nat) (r : Int) (a : Nat) (hs : st ≤ n) (h : st ≤ a) : Cut e (escOut f n st r a) (escOut f e st r a) := by
  unfold escOut
  exact Cut.ite (fun _ => Cut.refl) (fun _ => Cut.ite (fun _ => Cut.refl) (fun _ => Cut.ite (fun _ => edge_cut f n e hen st _ _ _ a hs h) (fun _ => Cut.ite (fun _ => edge_cut f n e hen st _ _ _ a hs h) (fun _ => Cut.ite (fun _ => Cut.refl) (fun _ => Cut.ite (fun _ => back_cut f n e hen st a hs h) (fun _ => Cut.refl))))))
theorem escape_cut (hen : e ≤ n) (st a k : Nat) (hs : st ≤ n) (h : st ≤ a) : Cut e (escape f n st a k) (escape f e st a k) := by
  unfold escape
  refine (point_cut f n e hen a).bind (fun r b hb => ?_) (fun r b hb hl => ?_)
  · have hv := point_val hb
    have hx := (expr_in f n st b hs (by omega)).weak (show b ≤ b + 1 by omega)
    have M : In st b n (if r = 100 then Out.ok (prop [100] false) b else if r = 119 then .ok (prop [119] false) b else if r = 115 then .ok (prop [115] false) b
      else if r = 68 then .ok (prop [100] true) b else if r = 87 then .ok (prop [119] true) b else if r = 83 then .ok (prop [115] true) b
      else if r = 112 then (expr f n st b).bind fun s a => .ok (prop s false) a
      else if r = 80 then (expr f n st b).bind fun s a => .ok (prop s true) a
      else if r = 110 then .ok (char 10) b else if r = 116 then .ok (char 9) b else if r = 114 then .ok (char 13) b
      else if r = 120 then hex f n st b
      else if letterB r = false ∧ digitB r = false then .ok (char r) b
      else if 0 < k then nope f st
      else escOut f n st r b) := by
      repeat' first | exact (escOut_in f n st r b hs (by omega) hv.2.2) | exact (hex_in f n st b hs (by omega)).weak (by omega) | refine In.ite ?_ ?_
      all_goals first | exact ⟨Nat.le_refl _, hv.2.2⟩ | exact hx.bind (fun u e h3 h4 => ⟨h3, h4⟩) | exact nope_in f n st _ hs
    exact Mono.of M
  · have hv := point_val hb
    have X : ∀ ng, Cut e ((expr f n st b).bind fun s a => .ok (prop s ng) a) ((expr f e st b).bind fun s a => .ok (prop s ng) a) := fun ng =>
      (expr_cut f n e hen st b hs (by omega)).bind (fun u x hx => by intro u' a' h; cases h; exact Nat.le_refl _) (fun _ _ _ _ => Cut.refl)
    exact Cut.ite (fun _ => Cut.refl) (fun _ => Cut.ite (fun _ => Cut.refl) (fun _ => Cut.ite (fun _ => Cut.refl) (fun _ => Cut.ite (fun _ => Cut.refl) (fun _ => Cut.ite (fun _ => Cut.refl) (fun _ => Cut.ite (fun _ => Cut.refl) (fun _ => Cut.ite (fun _ => X false) (fun _ => Cut.ite (fun _ => X true) (fun _ => Cut.ite (fun _ => Cut.refl) (fun _ => Cut.ite (fun _ => Cut.refl) (fun _ => Cut.ite (fun _ => Cut.refl) (fun _ => Cut.ite (fun _ => hex_cut f n e hen st b hs (by omega)) (fun _ => Cut.ite (fun _ => Cut.refl) (fun _ => Cut.ite (fun _ => Cut.refl) (fun _ => escOut_cut f n e hen st r b hs (by omega)))))))))))))))
theorem token_cut (hen : e ≤ n) (st k : Nat) (hs : st ≤ n) : Cut e (token f n st k) (token f e st k) := by
  unfold token
  refine (point_cut f n e hen st).bind (fun r a hb => ?_) (fun r a hb hl => ?_)
  · have hv := point_val hb
    split
    · exact Mono.of (with_in n ((escape_in f n st a k hs (by omega))))
    · split
      · exact Mono.of (within_in f n st r a k hv.2.2)
      · exact Mono.of (outside_in f n st r a k hs (by omega) hv.2.2)
  · have hv := point_val hb
    exact Cut.ite (fun _ => with_cut e (escape_cut f n e hen st a k hs (by omega))) (fun _ => Cut.ite (fun _ => within_cut f n e hen r a k) (fun _ => outside_cut f n e hen st r a k hs (by omega)))
/-- Tokens ahead of a token's end are the same where the bytes end there. -/
theorem scanA_cut : ∀ (i a k : Nat) (t : Tk), a ≤ n → (scanA f n a k).1[i]? = some t → t.e ≤ n ∧ a < t.e ∧ i ≤ (scanA f t.e a k).1.length ∧ (scanA f t.e a k).1.take i = (scanA f n a k).1.take i := by
  intro i
  induction i with
  | zero =>
    intro a k t ha ht
    have hlt : a < n := by
      rcases Nat.lt_or_ge a n with h | h
      · exact h
      · obtain rfl : a = n := by omega
        rw [scanA_end] at ht; simp at ht
    cases ho : token f n a k with
    | no c p => rw [scanA_no f n ho hlt] at ht; simp at ht
    | ok t0 a1 =>
      have hv := token_val f n ho ha
      rw [scanA_ok f n ho hlt] at ht
      simp at ht
      subst ht
      exact ⟨hv.2.1, hv.1, Nat.zero_le _, by simp⟩
  | succ i ih =>
    intro a k t ha ht
    have hlt : a < n := by
      rcases Nat.lt_or_ge a n with h | h
      · exact h
      · obtain rfl : a = n := by omega
        rw [scanA_end] at ht; simp at ht
    cases ho : token f n a k with
    | no c p => rw [scanA_no f n ho hlt] at ht; simp at ht
    | ok t0 a1 =>
      have hv := token_val f n ho ha
      have hs := scanA_ok f n ho hlt
      rw [hs] at ht
      simp at ht
      obtain ⟨h1, h2, h3, h4⟩ := ih a1 t0.2 t hv.2.1 ht
      have hc := token_cut f n t.e h1 a k ha t0 a1 ho h2
      have hs' := scanA_ok f t.e hc (by omega)
      refine ⟨h1, by omega, ?_, ?_⟩
      · rw [hs']; simp; omega
      · rw [hs', hs]; simp [h4]
theorem scanL_cut (i : Nat) (t : Tk) (ht : (scanL f n).1[i]? = some t) : n ≤ 2000 ∧ t.e ≤ n ∧ i ≤ (scanL f t.e).1.length ∧ (scanL f t.e).1.take i = (scanL f n).1.take i := by
  by_cases hn : n ≤ 2000
  · rw [scanL_A f n hn] at ht ⊢
    obtain ⟨h1, h2, h3, h4⟩ := scanA_cut f n i 0 0 t (Nat.zero_le _) ht
    rw [scanL_A f t.e (by omega)]
    exact ⟨hn, h1, h3, h4⟩
  · unfold scanL at ht; rw [if_neg hn] at ht; simp at ht
end
end Go.Proofs.YtlgkfnecahgedaaGreatDoor.tok
end
