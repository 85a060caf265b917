/- Texts that the proof leans on, one behind the other. -/
import Derived.Test.YtlidgjkipbijlaaGreatDoorBdItm4
import Derived.Test.YtlidgjkipbijlaaGreatDoorBdItm6
import Derived.Test.YtlidgjkipbijlaaGreatDoorBdItm7

section
/- ItemsSpan, ItemsAfter: the walks. -/
set_option linter.unusedVariables false
set_option linter.unusedSimpArgs false
namespace Go.Proofs.YtlidgjkipbijlaaGreatDoor.itm
open Go.RowKit Go.Shelf nrm prp
open Go.Proofs.YtlidgjkipbijlaaGreatDoor.utf (IsB lst)

set_option maxHeartbeats 1000000 in
set_option maxRecDepth 1000000 in
theorem span_walk (v : Value) (N : Nat) (f : Nat → Int) (c : Bool) (a b : Int) (w : World) (h : ArgB w v N f) (E : Env w) :
    Calls Tryz.prog 4 #[v, .bool c, .int .i64 a, .int .i64 b] w fun e w' => e = .returned (.bool true) ∧ Below w.heap.size w w' := by
  obtain ⟨n, hn⟩ : ∃ n, min N 300 = n := ⟨_, rfl⟩
  have hn3 : n ≤ 300 := by omega
  have C := both_any v N n f c w h hn E
  have HF : Hid (Fine n (itemsL c f n)) := items_fine c f n h.fine
  have HL : Hid ((itemsL c f n).length ≤ 2700) := len300 c f n hn3
  clear h E hn
  go_enter Tryz.func4, Tryz.ntmps4
  go_wp2_with fail
  refine C.mono ?_
  rintro e w1 ⟨x, y, rfl, hx, hy, b1⟩
  clear C
  have HB1 : Hid (Below w.heap.size w w1) := b1
  have HY : Hid (RTxt w1 w.heap.size y n f (itemsL c f n)) := hy
  have C := span_t x w.heap.size n f (itemsL c f n) a b w1 hx (by have := HL.out; omega) HF.out
  clear hx hy b1
  go_wp2_with fail
  refine C.mono ?_
  rintro e w2 ⟨rfl, b2⟩
  clear C
  have HB2 : Hid (Below w.heap.size w w2) := HB1.out.trans (b2.mono HB1.out.size)
  have C := rspan_t y w.heap.size n f (itemsL c f n) a b w2 (HY.out.below b2) (by have := HL.out; omega) (by omega)
  clear b2 HB1 HY
  generalize spanP (n : Int) (itemsL c f n) a b = p at *
  unfold spV at C ⊢
  go_wp2_with fail
  refine C.mono ?_
  rintro e w3 ⟨rfl, b3⟩
  clear C
  have HB3 : Hid (Below w.heap.size w w3) := HB2.out.trans (b3.mono HB2.out.size)
  clear b3 HB2
  generalize p.1 = p1 at *
  generalize p.2 = p2 at *
  go_wp2
  go_ret
  exact ⟨by simp, HB3.out⟩
set_option maxHeartbeats 1000000 in
set_option maxRecDepth 1000000 in
theorem after_walk (v : Value) (N : Nat) (f : Nat → Int) (c : Bool) (a : Int) (w : World) (h : ArgB w v N f) (E : Env w) :
    Calls Tryz.prog 5 #[v, .bool c, .int .i64 a] w fun e w' => e = .returned (.bool true) ∧ Below w.heap.size w w' := by
  obtain ⟨n, hn⟩ : ∃ n, min N 300 = n := ⟨_, rfl⟩
  have hn3 : n ≤ 300 := by omega
  have C := both_any v N n f c w h hn E
  have HF : Hid (Fine n (itemsL c f n)) := items_fine c f n h.fine
  have HL : Hid ((itemsL c f n).length ≤ 2700) := len300 c f n hn3
  clear h E hn
  go_enter Tryz.func5, Tryz.ntmps5
  go_wp2_with fail
  refine C.mono ?_
  rintro e w1 ⟨x, y, rfl, hx, hy, b1⟩
  clear C
  have HB1 : Hid (Below w.heap.size w w1) := b1
  have HY : Hid (RTxt w1 w.heap.size y n f (itemsL c f n)) := hy
  have C := after_t x w.heap.size n f (itemsL c f n) a w1 hx (by have := HL.out; omega) HF.out
  clear hx hy b1
  go_wp2_with fail
  refine C.mono ?_
  rintro e w2 ⟨rfl, b2⟩
  clear C
  have HB2 : Hid (Below w.heap.size w w2) := HB1.out.trans (b2.mono HB1.out.size)
  have C := rafter_t y w.heap.size n f (itemsL c f n) a w2 (HY.out.below b2) (by have := HL.out; omega)
  clear b2 HB1 HY
  generalize aft a (itemsL c f n) = p at *
  go_wp2_with fail
  refine C.mono ?_
  rintro e w3 ⟨rfl, b3⟩
  clear C
  have HB3 : Hid (Below w.heap.size w w3) := HB2.out.trans (b3.mono HB2.out.size)
  clear b3 HB2
  go_wp2
  go_ret
  exact ⟨by simp, HB3.out⟩
end Go.Proofs.YtlidgjkipbijlaaGreatDoor.itm
end
