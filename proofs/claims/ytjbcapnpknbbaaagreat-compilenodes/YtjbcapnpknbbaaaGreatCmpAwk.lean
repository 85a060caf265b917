/- compile.Can at awake's program; awake. -/
import Derived.Test.YtjbcapnpknbbaaaGreatCmpProgOk
import Derived.Test.YtjbcapnpknbbaaaGreatRngSmall
import Derived.Test.YtjbcapnpknbbaaaGreatBndCmpDoc13
import Derived.Deep.LoopGhost
set_option linter.unusedVariables false
set_option linter.unusedSimpArgs false
namespace Go.Proofs.YtjbcapnpknbbaaaGreat.cmp
open Go.RowKit nod
open Go.Proofs.YtjbcapnpknbbaaaGreat.rng (R RV info_parts canB)
open Go.Proofs.YtjbcapnpknbbaaaGreat.low (setsN setsL plN)
set_option maxRecDepth 10000 in
set_option maxHeartbeats 4000000 in
theorem last_nil (w : World) : Calls Tryz.prog 67 #[.slice none 0 0] w fun e w' => e = .returned (.int .i64 (-1)) ∧ w' = w := by
  go_enter Tryz.func67, Tryz.ntmps67
  go_wp2
  go_ret
  exact ⟨rfl, rfl⟩
set_option maxRecDepth 10000 in
set_option maxHeartbeats 4000000 in
theorem stand_4 (ka : Option Addr) (kc : Nat) (na : Option Addr) (nc : Nat) (y mn mx : Int) (sa : Option Addr) (sl sc : Nat) (w : World) (x : Int) (hx : 0 ≤ x ∧ x ≤ 1) :
    Calls Tryz.prog 31 #[.agg #[.slice ka 4 kc, .int .i64 0, .int .i64 0, .slice na 1 nc, .bool false, .bool false, .bool false, .int .i64 0], .agg #[.int .i64 4, .int .i64 x, .int .i64 y, .int .i64 mn, .int .i64 mx, .slice sa sl sc]] w fun e w' => e = .returned (.bool true) ∧ Below w.heap.size w w' := by
  have W2 : Below w.heap.size w ((w.alloc (.cells #[.slice ka 4 kc, .int .i64 0, .int .i64 0, .slice na 1 nc, .bool false, .bool false, .bool false, .int .i64 0] 34)).alloc (.cells #[.int .i64 4, .int .i64 x, .int .i64 y, .int .i64 mn, .int .i64 mx, .slice sa sl sc] 66)) := below2 _ _ _
  have HA : Hid (Bk ((w.alloc (.cells #[.slice ka 4 kc, .int .i64 0, .int .i64 0, .slice na 1 nc, .bool false, .bool false, .bool false, .int .i64 0] 34)).alloc (.cells #[.int .i64 4, .int .i64 x, .int .i64 y, .int .i64 mn, .int .i64 mx, .slice sa sl sc] 66)) w.heap.size #[.slice ka 4 kc, .int .i64 0, .int .i64 0, .slice na 1 nc, .bool false, .bool false, .bool false, .int .i64 0] 34) := (Bk.new w _ _).past _
  have HB : Hid (Bk ((w.alloc (.cells #[.slice ka 4 kc, .int .i64 0, .int .i64 0, .slice na 1 nc, .bool false, .bool false, .bool false, .int .i64 0] 34)).alloc (.cells #[.int .i64 4, .int .i64 x, .int .i64 y, .int .i64 mn, .int .i64 mx, .slice sa sl sc] 66)) (w.heap.size + 1) #[.int .i64 4, .int .i64 x, .int .i64 y, .int .i64 mn, .int .i64 mx, .slice sa sl sc] 66) := bk2
  have HW2 : Hid (Below w.heap.size w ((w.alloc (.cells #[.slice ka 4 kc, .int .i64 0, .int .i64 0, .slice na 1 nc, .bool false, .bool false, .bool false, .int .i64 0] 34)).alloc (.cells #[.int .i64 4, .int .i64 x, .int .i64 y, .int .i64 mn, .int .i64 mx, .slice sa sl sc] 66))) := W2
  have hz : (((w.alloc (.cells #[.slice ka 4 kc, .int .i64 0, .int .i64 0, .slice na 1 nc, .bool false, .bool false, .bool false, .int .i64 0] 34)).alloc (.cells #[.int .i64 4, .int .i64 x, .int .i64 y, .int .i64 mn, .int .i64 mx, .slice sa sl sc] 66))).heap.size = w.heap.size + 1 + 1 := by simp
  have CW := within_any x 0 1 ((w.alloc (.cells #[.slice ka 4 kc, .int .i64 0, .int .i64 0, .slice na 1 nc, .bool false, .bool false, .bool false, .int .i64 0] 34)).alloc (.cells #[.int .i64 4, .int .i64 x, .int .i64 y, .int .i64 mn, .int .i64 mx, .slice sa sl sc] 66))
  rw [decide_eq_true hx] at CW
  have x0 := HA.out.cell 0 (u := .slice ka 4 kc) rfl; have x1 := HA.out.cell 1 (u := .int .i64 0) rfl; have x2 := HA.out.cell 2 (u := .int .i64 0) rfl; have x3 := HA.out.cell 3 (u := .slice na 1 nc) rfl; have x4 := HA.out.cell 4 (u := .bool false) rfl; have x5 := HA.out.cell 5 (u := .bool false) rfl; have x6 := HA.out.cell 6 (u := .bool false) rfl; have x7 := HA.out.cell 7 (u := .int .i64 0) rfl
  have y0 := HB.out.cell 0 (u := .int .i64 4) rfl; have y1 := HB.out.cell 1 (u := .int .i64 x) rfl; have y2 := HB.out.cell 2 (u := .int .i64 y) rfl; have y3 := HB.out.cell 3 (u := .int .i64 mn) rfl; have y4 := HB.out.cell 4 (u := .int .i64 mx) rfl; have y5 := HB.out.cell 5 (u := .slice sa sl sc) rfl
  clear W2
  go_enter Tryz.func31, Tryz.ntmps31
  go_wp2_with ((go_at_call 38; refine CW.mono ?_; clear CW; rintro e w3 ⟨rfl, hw3⟩; obtain rfl := hw3.symm; clear hw3))
  go_ret
  exact ⟨rfl, HW2.out⟩
set_option maxRecDepth 10000 in
set_option maxHeartbeats 4000000 in
theorem stand_12 (ka : Option Addr) (kc : Nat) (na : Option Addr) (nc : Nat) (y mn mx : Int) (sa : Option Addr) (sl sc : Nat) (w : World) (x : Int) :
    Calls Tryz.prog 31 #[.agg #[.slice ka 4 kc, .int .i64 0, .int .i64 0, .slice na 1 nc, .bool false, .bool false, .bool false, .int .i64 0], .agg #[.int .i64 12, .int .i64 x, .int .i64 y, .int .i64 mn, .int .i64 mx, .slice sa sl sc]] w fun e w' => e = .returned (.bool true) ∧ Below w.heap.size w w' := by
  have W2 : Below w.heap.size w ((w.alloc (.cells #[.slice ka 4 kc, .int .i64 0, .int .i64 0, .slice na 1 nc, .bool false, .bool false, .bool false, .int .i64 0] 34)).alloc (.cells #[.int .i64 12, .int .i64 x, .int .i64 y, .int .i64 mn, .int .i64 mx, .slice sa sl sc] 66)) := below2 _ _ _
  have HA : Hid (Bk ((w.alloc (.cells #[.slice ka 4 kc, .int .i64 0, .int .i64 0, .slice na 1 nc, .bool false, .bool false, .bool false, .int .i64 0] 34)).alloc (.cells #[.int .i64 12, .int .i64 x, .int .i64 y, .int .i64 mn, .int .i64 mx, .slice sa sl sc] 66)) w.heap.size #[.slice ka 4 kc, .int .i64 0, .int .i64 0, .slice na 1 nc, .bool false, .bool false, .bool false, .int .i64 0] 34) := (Bk.new w _ _).past _
  have HB : Hid (Bk ((w.alloc (.cells #[.slice ka 4 kc, .int .i64 0, .int .i64 0, .slice na 1 nc, .bool false, .bool false, .bool false, .int .i64 0] 34)).alloc (.cells #[.int .i64 12, .int .i64 x, .int .i64 y, .int .i64 mn, .int .i64 mx, .slice sa sl sc] 66)) (w.heap.size + 1) #[.int .i64 12, .int .i64 x, .int .i64 y, .int .i64 mn, .int .i64 mx, .slice sa sl sc] 66) := bk2
  have HW2 : Hid (Below w.heap.size w ((w.alloc (.cells #[.slice ka 4 kc, .int .i64 0, .int .i64 0, .slice na 1 nc, .bool false, .bool false, .bool false, .int .i64 0] 34)).alloc (.cells #[.int .i64 12, .int .i64 x, .int .i64 y, .int .i64 mn, .int .i64 mx, .slice sa sl sc] 66))) := W2
  have hz : (((w.alloc (.cells #[.slice ka 4 kc, .int .i64 0, .int .i64 0, .slice na 1 nc, .bool false, .bool false, .bool false, .int .i64 0] 34)).alloc (.cells #[.int .i64 12, .int .i64 x, .int .i64 y, .int .i64 mn, .int .i64 mx, .slice sa sl sc] 66))).heap.size = w.heap.size + 1 + 1 := by simp
  have CW := within_any 12 1 12 ((w.alloc (.cells #[.slice ka 4 kc, .int .i64 0, .int .i64 0, .slice na 1 nc, .bool false, .bool false, .bool false, .int .i64 0] 34)).alloc (.cells #[.int .i64 12, .int .i64 x, .int .i64 y, .int .i64 mn, .int .i64 mx, .slice sa sl sc] 66))
  rw [decide_eq_true (by decide)] at CW
  have x0 := HA.out.cell 0 (u := .slice ka 4 kc) rfl; have x1 := HA.out.cell 1 (u := .int .i64 0) rfl; have x2 := HA.out.cell 2 (u := .int .i64 0) rfl; have x3 := HA.out.cell 3 (u := .slice na 1 nc) rfl; have x4 := HA.out.cell 4 (u := .bool false) rfl; have x5 := HA.out.cell 5 (u := .bool false) rfl; have x6 := HA.out.cell 6 (u := .bool false) rfl; have x7 := HA.out.cell 7 (u := .int .i64 0) rfl
  have y0 := HB.out.cell 0 (u := .int .i64 12) rfl; have y1 := HB.out.cell 1 (u := .int .i64 x) rfl; have y2 := HB.out.cell 2 (u := .int .i64 y) rfl; have y3 := HB.out.cell 3 (u := .int .i64 mn) rfl; have y4 := HB.out.cell 4 (u := .int .i64 mx) rfl; have y5 := HB.out.cell 5 (u := .slice sa sl sc) rfl
  clear W2
  go_enter Tryz.func31, Tryz.ntmps31
  go_wp2_with ((go_at_call 38; refine CW.mono ?_; clear CW; rintro e w3 ⟨rfl, hw3⟩; obtain rfl := hw3.symm; clear hw3))
  go_ret
  exact ⟨rfl, HW2.out⟩
set_option maxRecDepth 10000 in
set_option maxHeartbeats 4000000 in
theorem stand_1 (ka : Option Addr) (kc : Nat) (na : Option Addr) (nc : Nat) (y mn mx : Int) (sa : Option Addr) (sl sc : Nat) (w : World) (x : Int) (hr : RV w sa [(5, 6)]) :
    Calls Tryz.prog 31 #[.agg #[.slice ka 4 kc, .int .i64 0, .int .i64 0, .slice na 1 nc, .bool false, .bool false, .bool false, .int .i64 0], .agg #[.int .i64 1, .int .i64 x, .int .i64 y, .int .i64 mn, .int .i64 mx, .slice sa 1 sc]] w fun e w' => e = .returned (.bool true) ∧ Below w.heap.size w w' := by
  have W2 : Below w.heap.size w ((w.alloc (.cells #[.slice ka 4 kc, .int .i64 0, .int .i64 0, .slice na 1 nc, .bool false, .bool false, .bool false, .int .i64 0] 34)).alloc (.cells #[.int .i64 1, .int .i64 x, .int .i64 y, .int .i64 mn, .int .i64 mx, .slice sa 1 sc] 66)) := below2 _ _ _
  have HA : Hid (Bk ((w.alloc (.cells #[.slice ka 4 kc, .int .i64 0, .int .i64 0, .slice na 1 nc, .bool false, .bool false, .bool false, .int .i64 0] 34)).alloc (.cells #[.int .i64 1, .int .i64 x, .int .i64 y, .int .i64 mn, .int .i64 mx, .slice sa 1 sc] 66)) w.heap.size #[.slice ka 4 kc, .int .i64 0, .int .i64 0, .slice na 1 nc, .bool false, .bool false, .bool false, .int .i64 0] 34) := (Bk.new w _ _).past _
  have HB : Hid (Bk ((w.alloc (.cells #[.slice ka 4 kc, .int .i64 0, .int .i64 0, .slice na 1 nc, .bool false, .bool false, .bool false, .int .i64 0] 34)).alloc (.cells #[.int .i64 1, .int .i64 x, .int .i64 y, .int .i64 mn, .int .i64 mx, .slice sa 1 sc] 66)) (w.heap.size + 1) #[.int .i64 1, .int .i64 x, .int .i64 y, .int .i64 mn, .int .i64 mx, .slice sa 1 sc] 66) := bk2
  have HW2 : Hid (Below w.heap.size w ((w.alloc (.cells #[.slice ka 4 kc, .int .i64 0, .int .i64 0, .slice na 1 nc, .bool false, .bool false, .bool false, .int .i64 0] 34)).alloc (.cells #[.int .i64 1, .int .i64 x, .int .i64 y, .int .i64 mn, .int .i64 mx, .slice sa 1 sc] 66))) := W2
  have hz : (((w.alloc (.cells #[.slice ka 4 kc, .int .i64 0, .int .i64 0, .slice na 1 nc, .bool false, .bool false, .bool false, .int .i64 0] 34)).alloc (.cells #[.int .i64 1, .int .i64 x, .int .i64 y, .int .i64 mn, .int .i64 mx, .slice sa 1 sc] 66))).heap.size = w.heap.size + 1 + 1 := by simp
  have CR1 := rng.can_any sa sc [(5, 6)] ((w.alloc (.cells #[.slice ka 4 kc, .int .i64 0, .int .i64 0, .slice na 1 nc, .bool false, .bool false, .bool false, .int .i64 0] 34)).alloc (.cells #[.int .i64 1, .int .i64 x, .int .i64 y, .int .i64 mn, .int .i64 mx, .slice sa 1 sc] 66)) (by decide) (hr.below W2)
  rw [show canB 0 [((5 : Int), (6 : Int))] = true by decide] at CR1
  have x0 := HA.out.cell 0 (u := .slice ka 4 kc) rfl; have x1 := HA.out.cell 1 (u := .int .i64 0) rfl; have x2 := HA.out.cell 2 (u := .int .i64 0) rfl; have x3 := HA.out.cell 3 (u := .slice na 1 nc) rfl; have x4 := HA.out.cell 4 (u := .bool false) rfl; have x5 := HA.out.cell 5 (u := .bool false) rfl; have x6 := HA.out.cell 6 (u := .bool false) rfl; have x7 := HA.out.cell 7 (u := .int .i64 0) rfl
  have y0 := HB.out.cell 0 (u := .int .i64 1) rfl; have y1 := HB.out.cell 1 (u := .int .i64 x) rfl; have y2 := HB.out.cell 2 (u := .int .i64 y) rfl; have y3 := HB.out.cell 3 (u := .int .i64 mn) rfl; have y4 := HB.out.cell 4 (u := .int .i64 mx) rfl; have y5 := HB.out.cell 5 (u := .slice sa 1 sc) rfl
  clear W2
  go_enter Tryz.func31, Tryz.ntmps31
  go_wp2_with ((go_at_call 69; refine CR1.mono ?_; clear CR1; rintro e w3 ⟨rfl, b3⟩; have HB3 : Hid (Below w.heap.size w w3) := HW2.out.trans (below_less b3 (by omega)); clear b3))
  go_ret
  exact ⟨rfl, HB3.out⟩
set_option maxRecDepth 10000 in
set_option maxHeartbeats 4000000 in
theorem stay_4 (ia : Option Addr) (ic : Nat) (at' x y mn mx : Int) (sa : Option Addr) (sl sc : Nat) (w : World) :
    Calls Tryz.prog 32 #[.slice ia 4 ic, .int .i64 at', .agg #[.int .i64 4, .int .i64 x, .int .i64 y, .int .i64 mn, .int .i64 mx, .slice sa sl sc]] w fun e w' => e = .returned (.bool true) ∧ Below w.heap.size w w' := by
  have HW2 : Hid (Below w.heap.size w (((w.alloc (.cells #[.slice ia 4 ic] 72)).alloc (.cells #[.int .i64 at'] 3)).alloc (.cells #[.int .i64 4, .int .i64 x, .int .i64 y, .int .i64 mn, .int .i64 mx, .slice sa sl sc] 66))) := (below2 _ _ _).alloc (by simp; omega) _
  have HB : Hid (Bk (((w.alloc (.cells #[.slice ia 4 ic] 72)).alloc (.cells #[.int .i64 at'] 3)).alloc (.cells #[.int .i64 4, .int .i64 x, .int .i64 y, .int .i64 mn, .int .i64 mx, .slice sa sl sc] 66)) (w.heap.size + 1 + 1) #[.int .i64 4, .int .i64 x, .int .i64 y, .int .i64 mn, .int .i64 mx, .slice sa sl sc] 66) := by
    have := Bk.new ((w.alloc (.cells #[.slice ia 4 ic] 72)).alloc (.cells #[.int .i64 at'] 3)) #[.int .i64 4, .int .i64 x, .int .i64 y, .int .i64 mn, .int .i64 mx, .slice sa sl sc] 66
    unfold Hid; simpa using this
  have y0 := HB.out.cell 0 (u := .int .i64 4) rfl; have y1 := HB.out.cell 1 (u := .int .i64 x) rfl; have y2 := HB.out.cell 2 (u := .int .i64 y) rfl; have y3 := HB.out.cell 3 (u := .int .i64 mn) rfl; have y4 := HB.out.cell 4 (u := .int .i64 mx) rfl; have y5 := HB.out.cell 5 (u := .slice sa sl sc) rfl
  go_enter Tryz.func32, Tryz.ntmps32
  go_wp2
  go_ret
  exact ⟨rfl, HW2.out⟩
set_option maxRecDepth 10000 in
set_option maxHeartbeats 4000000 in
theorem stay_12 (ia : Option Addr) (ic : Nat) (at' x y mn mx : Int) (sa : Option Addr) (sl sc : Nat) (w : World) :
    Calls Tryz.prog 32 #[.slice ia 4 ic, .int .i64 at', .agg #[.int .i64 12, .int .i64 x, .int .i64 y, .int .i64 mn, .int .i64 mx, .slice sa sl sc]] w fun e w' => e = .returned (.bool true) ∧ Below w.heap.size w w' := by
  have HW2 : Hid (Below w.heap.size w (((w.alloc (.cells #[.slice ia 4 ic] 72)).alloc (.cells #[.int .i64 at'] 3)).alloc (.cells #[.int .i64 12, .int .i64 x, .int .i64 y, .int .i64 mn, .int .i64 mx, .slice sa sl sc] 66))) := (below2 _ _ _).alloc (by simp; omega) _
  have HB : Hid (Bk (((w.alloc (.cells #[.slice ia 4 ic] 72)).alloc (.cells #[.int .i64 at'] 3)).alloc (.cells #[.int .i64 12, .int .i64 x, .int .i64 y, .int .i64 mn, .int .i64 mx, .slice sa sl sc] 66)) (w.heap.size + 1 + 1) #[.int .i64 12, .int .i64 x, .int .i64 y, .int .i64 mn, .int .i64 mx, .slice sa sl sc] 66) := by
    have := Bk.new ((w.alloc (.cells #[.slice ia 4 ic] 72)).alloc (.cells #[.int .i64 at'] 3)) #[.int .i64 12, .int .i64 x, .int .i64 y, .int .i64 mn, .int .i64 mx, .slice sa sl sc] 66
    unfold Hid; simpa using this
  have y0 := HB.out.cell 0 (u := .int .i64 12) rfl; have y1 := HB.out.cell 1 (u := .int .i64 x) rfl; have y2 := HB.out.cell 2 (u := .int .i64 y) rfl; have y3 := HB.out.cell 3 (u := .int .i64 mn) rfl; have y4 := HB.out.cell 4 (u := .int .i64 mx) rfl; have y5 := HB.out.cell 5 (u := .slice sa sl sc) rfl
  go_enter Tryz.func32, Tryz.ntmps32
  go_wp2
  go_ret
  exact ⟨rfl, HW2.out⟩
set_option maxRecDepth 10000 in
set_option maxHeartbeats 4000000 in
theorem stay_1 (ia : Option Addr) (ic : Nat) (at' x y mn mx : Int) (sa : Option Addr) (sl sc : Nat) (w : World) :
    Calls Tryz.prog 32 #[.slice ia 4 ic, .int .i64 at', .agg #[.int .i64 1, .int .i64 x, .int .i64 y, .int .i64 mn, .int .i64 mx, .slice sa sl sc]] w fun e w' => e = .returned (.bool true) ∧ Below w.heap.size w w' := by
  have HW2 : Hid (Below w.heap.size w (((w.alloc (.cells #[.slice ia 4 ic] 72)).alloc (.cells #[.int .i64 at'] 3)).alloc (.cells #[.int .i64 1, .int .i64 x, .int .i64 y, .int .i64 mn, .int .i64 mx, .slice sa sl sc] 66))) := (below2 _ _ _).alloc (by simp; omega) _
  have HB : Hid (Bk (((w.alloc (.cells #[.slice ia 4 ic] 72)).alloc (.cells #[.int .i64 at'] 3)).alloc (.cells #[.int .i64 1, .int .i64 x, .int .i64 y, .int .i64 mn, .int .i64 mx, .slice sa sl sc] 66)) (w.heap.size + 1 + 1) #[.int .i64 1, .int .i64 x, .int .i64 y, .int .i64 mn, .int .i64 mx, .slice sa sl sc] 66) := by
    have := Bk.new ((w.alloc (.cells #[.slice ia 4 ic] 72)).alloc (.cells #[.int .i64 at'] 3)) #[.int .i64 1, .int .i64 x, .int .i64 y, .int .i64 mn, .int .i64 mx, .slice sa sl sc] 66
    unfold Hid; simpa using this
  have y0 := HB.out.cell 0 (u := .int .i64 1) rfl; have y1 := HB.out.cell 1 (u := .int .i64 x) rfl; have y2 := HB.out.cell 2 (u := .int .i64 y) rfl; have y3 := HB.out.cell 3 (u := .int .i64 mn) rfl; have y4 := HB.out.cell 4 (u := .int .i64 mx) rfl; have y5 := HB.out.cell 5 (u := .slice sa sl sc) rfl
  go_enter Tryz.func32, Tryz.ntmps32
  go_wp2
  go_ret
  exact ⟨rfl, HW2.out⟩
/-- The instructions of awake's program. -/
def awP (s0 s1 s2 s3 : SV) : List (Is SV) := [⟨4, 0, 0, 0, 0, s0⟩, ⟨1, 0, 0, 0, 0, s1⟩, ⟨4, 1, 0, 0, 0, s2⟩, ⟨12, 0, 0, 0, 0, s3⟩]
set_option maxRecDepth 10000 in
set_option maxHeartbeats 4000000 in
theorem blocks_aw (ka : Option Addr) (kc : Nat) (s0 s1 s2 s3 : SV) (w : World) (h : CR w ka (awP s0 s1 s2 s3)) :
    Calls Tryz.prog 30 #[.slice ka 4 kc] w fun e w' => ∃ ia, e = .returned (.tuple #[.slice ia 4 4, .bool true]) ∧ Below w.heap.size w w' := by
  obtain ⟨kb, ko, rfl, hat⟩ := h.pos (by simp [awP])
  have hkb : kb < w.heap.size := CR.lt hat (by simp [awP])
  have HAT : Hid (∀ k i, (awP s0 s1 s2 s3)[k]? = some i → At6 w kb (ko + k * 6) i) := hat
  have hmk : ∀ w, (Instr.makeSlice 72 (.int .i64 4) (.int .i64 4)).run Tryz.prog w = .ok (.slice (some ⟨w.heap.size, 0, none⟩) 4 4) (w.alloc (.cells #[.int .i64 0, .int .i64 0, .int .i64 0, .int .i64 0] 3)) := fun _ => by kernel_rfl
  have HB0 : Hid (Below w.heap.size w (w.alloc (.cells #[.int .i64 0, .int .i64 0, .int .i64 0, .int .i64 0] 3))) := (Below.refl _ _).alloc (Nat.le_refl _) _
  have HI0 : Hid (Bk (w.alloc (.cells #[.int .i64 0, .int .i64 0, .int .i64 0, .int .i64 0] 3)) w.heap.size #[.int .i64 0, .int .i64 0, .int .i64 0, .int .i64 0] 3) := Bk.new w _ _
  have CL := last_nil
  have HCL : Hid (∀ w, Calls Tryz.prog 67 #[.slice none 0 0] w fun e w' => e = .returned (.int .i64 (-1)) ∧ w' = w) := CL
  clear h hat CL
  go_enter Tryz.func30, Tryz.ntmps30
  go_wp2
  go_loopw [5, 13] (fun v i wr => ∃ (k : Nat) (z0 z1 z2 z3 : Int), v = .slice none 0 0 ∧ k ≤ 4 ∧ i = .int .i64 k ∧ Hid (Below w.heap.size w wr) ∧ Hid (Bk wr w.heap.size #[.int .i64 z0, .int .i64 z1, .int .i64 z2, .int .i64 z3] 3)) (fun _ i _ => 4 - (intOf i).toNat)
  case atStart => exact ⟨0, 0, 0, 0, 0, rfl, by omega, rfl, HB0, HI0⟩
  case round =>
    obtain ⟨k, z0, z1, z2, z3, rfl, hk, rfl, HW, HI⟩ := hrel
    clear HB0 HI0
    by_cases hlt : k < 4
    · have hex : ∃ i, (awP s0 s1 s2 s3)[k]? = some i ∧ i.op ≠ 8 ∧ i.op ≠ 9 := by
        obtain rfl | rfl | rfl | rfl : k = 0 ∨ k = 1 ∨ k = 2 ∨ k = 3 := by omega
        · exact ⟨_, rfl, by simp, by simp⟩
        · exact ⟨_, rfl, by simp, by simp⟩
        · exact ⟨_, rfl, by simp, by simp⟩
        · exact ⟨_, rfl, by simp, by simp⟩
      obtain ⟨i, hi, h8, h9⟩ := hex
      have hA : At6 wr kb (ko + k * 6) i := fun j u hu => (HW.out.cell (p := ⟨kb, ko + k * 6 + j, none⟩) hkb).trans (HAT.out k i hi j u hu)
      have u0 := hA.c0; have u1 := hA.c1; have u2 := hA.c2; have u3 := hA.c3; have u4 := hA.c4; have u5 := hA.c5
      obtain ⟨io, ix, iy, imn, imx, is1, isl, isc⟩ := i
      simp only at h8 h9 u0 u1 u2 u3 u4 u5
      have f8 : (io != 8) = true := by simpa using h8
      have f9 : (io != 9) = true := by simpa using h9
      have hsr := HW.out.size
      have W3 : Below wr.heap.size wr (wr.alloc (.cells #[.int .i64 io, .int .i64 ix, .int .i64 iy, .int .i64 imn, .int .i64 imx, .slice is1 isl isc] 66)) := (Below.refl _ wr).alloc (Nat.le_refl _) _
      have HT : Hid (Bk (wr.alloc (.cells #[.int .i64 io, .int .i64 ix, .int .i64 iy, .int .i64 imn, .int .i64 imx, .slice is1 isl isc] 66)) wr.heap.size #[.int .i64 io, .int .i64 ix, .int .i64 iy, .int .i64 imn, .int .i64 imx, .slice is1 isl isc] 66) := Bk.new wr _ _
      have HI3 : Hid (Bk (wr.alloc (.cells #[.int .i64 io, .int .i64 ix, .int .i64 iy, .int .i64 imn, .int .i64 imx, .slice is1 isl isc] 66)) w.heap.size #[.int .i64 z0, .int .i64 z1, .int .i64 z2, .int .i64 z3] 3) := HI.out.on W3
      have HW3 : Hid (Below w.heap.size w (wr.alloc (.cells #[.int .i64 io, .int .i64 ix, .int .i64 iy, .int .i64 imn, .int .i64 imx, .slice is1 isl isc] 66))) := HW.out.trans (below_less W3 hsr)
      have hwl := HI.out.lt
      obtain ⟨w3, hw3⟩ : ∃ w3, wr.alloc (.cells #[.int .i64 io, .int .i64 ix, .int .i64 iy, .int .i64 imn, .int .i64 imx, .slice is1 isl isc] 66) = w3 := ⟨_, rfl⟩
      have HW3N : Hid (wr.alloc (.cells #[.int .i64 io, .int .i64 ix, .int .i64 iy, .int .i64 imn, .int .i64 imx, .slice is1 isl isc] 66) = w3) := hw3
      rw [hw3] at HT HI3 HW3
      have C := HCL.out w3
      obtain ⟨tb, htb⟩ : ∃ tb, wr.heap.size = tb := ⟨_, rfl⟩
      have HTB : Hid (wr.heap.size = tb) := htb
      rw [htb] at HT hwl
      clear hA hw3 W3 HW HI htb hi hsr
      go_upto_region 6 with fail
      rw [HW3N.out, HTB.out]
      clear u0 u1 u2 u3 u4 u5
      go_wp2
      go_loopw [5] (fun v wx => v = .slice none 0 0 ∧ wx = w3) (fun _ _ => 0)
      case atStart => exact ⟨rfl, rfl⟩
      case round =>
        obtain ⟨rfl, hwx⟩ := hrel
        obtain rfl := hwx.symm
        clear hwx
        obtain rfl | rfl | rfl | rfl : k = 0 ∨ k = 1 ∨ k = 2 ∨ k = 3 := by omega
        · have m0 := HI3.out.cell 0 (u := .int .i64 z0) rfl
          have mf := HI3.out.frozen 0
          have HI4 : Hid (Bk (w3.setCell ⟨w.heap.size, 0, none⟩ (.int .i64 (-1))) w.heap.size #[.int .i64 (-1), .int .i64 z1, .int .i64 z2, .int .i64 z3] 3) := by unfold Hid; have := HI3.out.set 0 (.int .i64 (-1)); simpa using this
          have HT4 : Hid (Bk (w3.setCell ⟨w.heap.size, 0, none⟩ (.int .i64 (-1))) tb #[.int .i64 io, .int .i64 ix, .int .i64 iy, .int .i64 imn, .int .i64 imx, .slice is1 isl isc] 66) := HT.out.apart (by omega) _
          have HW4 : Hid (Below w.heap.size w (w3.setCell ⟨w.heap.size, 0, none⟩ (.int .i64 (-1)))) := HW3.out.setCell (p := ⟨w.heap.size, 0, none⟩) (Nat.le_refl _) _
          have t0 := HT4.out.cell 0 (u := .int .i64 io) rfl
          go_wp2_with (go_at_call 67; refine C.mono ?_; clear C; rintro e w4 ⟨rfl, hw4⟩; obtain rfl := hw4.symm; clear hw4)
          go_roundw
          case rel => exact ⟨1, -1, z1, z2, z3, rfl, by omega, rfl, HW4, HI4⟩
          case measure => simp [intOf]
        · have m0 := HI3.out.cell 1 (u := .int .i64 z1) rfl
          have mf := HI3.out.frozen 1
          have HI4 : Hid (Bk (w3.setCell ⟨w.heap.size, 1, none⟩ (.int .i64 (-1))) w.heap.size #[.int .i64 z0, .int .i64 (-1), .int .i64 z2, .int .i64 z3] 3) := by unfold Hid; have := HI3.out.set 1 (.int .i64 (-1)); simpa using this
          have HT4 : Hid (Bk (w3.setCell ⟨w.heap.size, 1, none⟩ (.int .i64 (-1))) tb #[.int .i64 io, .int .i64 ix, .int .i64 iy, .int .i64 imn, .int .i64 imx, .slice is1 isl isc] 66) := HT.out.apart (by omega) _
          have HW4 : Hid (Below w.heap.size w (w3.setCell ⟨w.heap.size, 1, none⟩ (.int .i64 (-1)))) := HW3.out.setCell (p := ⟨w.heap.size, 1, none⟩) (Nat.le_refl _) _
          have t0 := HT4.out.cell 0 (u := .int .i64 io) rfl
          go_wp2_with (go_at_call 67; refine C.mono ?_; clear C; rintro e w4 ⟨rfl, hw4⟩; obtain rfl := hw4.symm; clear hw4)
          go_roundw
          case rel => exact ⟨2, z0, -1, z2, z3, rfl, by omega, rfl, HW4, HI4⟩
          case measure => simp [intOf]
        · have m0 := HI3.out.cell 2 (u := .int .i64 z2) rfl
          have mf := HI3.out.frozen 2
          have HI4 : Hid (Bk (w3.setCell ⟨w.heap.size, 2, none⟩ (.int .i64 (-1))) w.heap.size #[.int .i64 z0, .int .i64 z1, .int .i64 (-1), .int .i64 z3] 3) := by unfold Hid; have := HI3.out.set 2 (.int .i64 (-1)); simpa using this
          have HT4 : Hid (Bk (w3.setCell ⟨w.heap.size, 2, none⟩ (.int .i64 (-1))) tb #[.int .i64 io, .int .i64 ix, .int .i64 iy, .int .i64 imn, .int .i64 imx, .slice is1 isl isc] 66) := HT.out.apart (by omega) _
          have HW4 : Hid (Below w.heap.size w (w3.setCell ⟨w.heap.size, 2, none⟩ (.int .i64 (-1)))) := HW3.out.setCell (p := ⟨w.heap.size, 2, none⟩) (Nat.le_refl _) _
          have t0 := HT4.out.cell 0 (u := .int .i64 io) rfl
          go_wp2_with (go_at_call 67; refine C.mono ?_; clear C; rintro e w4 ⟨rfl, hw4⟩; obtain rfl := hw4.symm; clear hw4)
          go_roundw
          case rel => exact ⟨3, z0, z1, -1, z3, rfl, by omega, rfl, HW4, HI4⟩
          case measure => simp [intOf]
        · have m0 := HI3.out.cell 3 (u := .int .i64 z3) rfl
          have mf := HI3.out.frozen 3
          have HI4 : Hid (Bk (w3.setCell ⟨w.heap.size, 3, none⟩ (.int .i64 (-1))) w.heap.size #[.int .i64 z0, .int .i64 z1, .int .i64 z2, .int .i64 (-1)] 3) := by unfold Hid; have := HI3.out.set 3 (.int .i64 (-1)); simpa using this
          have HT4 : Hid (Bk (w3.setCell ⟨w.heap.size, 3, none⟩ (.int .i64 (-1))) tb #[.int .i64 io, .int .i64 ix, .int .i64 iy, .int .i64 imn, .int .i64 imx, .slice is1 isl isc] 66) := HT.out.apart (by omega) _
          have HW4 : Hid (Below w.heap.size w (w3.setCell ⟨w.heap.size, 3, none⟩ (.int .i64 (-1)))) := HW3.out.setCell (p := ⟨w.heap.size, 3, none⟩) (Nat.le_refl _) _
          have t0 := HT4.out.cell 0 (u := .int .i64 io) rfl
          go_wp2_with (go_at_call 67; refine C.mono ?_; clear C; rintro e w4 ⟨rfl, hw4⟩; obtain rfl := hw4.symm; clear hw4)
          go_roundw
          case rel => exact ⟨4, z0, z1, z2, -1, rfl, by omega, rfl, HW4, HI4⟩
          case measure => simp [intOf]
    · have hk4 : k = 4 := by omega
      clear hk4
      go_wp2
      go_ret2
      exact ⟨_, rfl, HW.out⟩
set_option maxRecDepth 10000 in
set_option maxHeartbeats 4000000 in
theorem have_aw (ka : Option Addr) (kc : Nat) (na : Option Addr) (nc : Nat) (s0 s1 s2 s3 : SV) (w : World) (h : CR w ka (awP s0 s1 s2 s3)) :
    Calls Tryz.prog 29 #[.agg #[.slice ka 4 kc, .int .i64 0, .int .i64 0, .slice na 1 nc, .bool false, .bool false, .bool false, .int .i64 0]] w fun e w' => e = .returned (.bool true) ∧ Below w.heap.size w w' := by
  obtain ⟨kb, ko, rfl, hat⟩ := h.pos (by simp [awP])
  have hkb : kb < w.heap.size := CR.lt hat (by simp [awP])
  have W1 : Below w.heap.size w (w.alloc (.cells #[.slice (some ⟨kb, ko, none⟩) 4 kc, .int .i64 0, .int .i64 0, .slice na 1 nc, .bool false, .bool false, .bool false, .int .i64 0] 34)) := (Below.refl _ _).alloc (Nat.le_refl _) _
  have HX : Hid (Bk (w.alloc (.cells #[.slice (some ⟨kb, ko, none⟩) 4 kc, .int .i64 0, .int .i64 0, .slice na 1 nc, .bool false, .bool false, .bool false, .int .i64 0] 34)) w.heap.size #[.slice (some ⟨kb, ko, none⟩) 4 kc, .int .i64 0, .int .i64 0, .slice na 1 nc, .bool false, .bool false, .bool false, .int .i64 0] 34) := Bk.new w _ _
  have HW1 : Hid (Below w.heap.size w (w.alloc (.cells #[.slice (some ⟨kb, ko, none⟩) 4 kc, .int .i64 0, .int .i64 0, .slice na 1 nc, .bool false, .bool false, .bool false, .int .i64 0] 34))) := W1
  have hA3 : At6 w kb (ko + 3 * 6) ⟨12, 0, 0, 0, 0, s3⟩ := hat 3 _ rfl
  have u0 := (W1.cell (p := ⟨kb, ko + 3 * 6, none⟩) hkb).trans hA3.c0
  have hsz : (w.alloc (.cells #[.slice (some ⟨kb, ko, none⟩) 4 kc, .int .i64 0, .int .i64 0, .slice na 1 nc, .bool false, .bool false, .bool false, .int .i64 0] 34)).heap.size = w.heap.size + 1 := by simp
  have x0 := HX.out.cell 0 (u := .slice (some ⟨kb, ko, none⟩) 4 kc) rfl; have x1 := HX.out.cell 1 (u := .int .i64 0) rfl; have x2 := HX.out.cell 2 (u := .int .i64 0) rfl; have x3 := HX.out.cell 3 (u := .slice na 1 nc) rfl; have x4 := HX.out.cell 4 (u := .bool false) rfl; have x5 := HX.out.cell 5 (u := .bool false) rfl; have x6 := HX.out.cell 6 (u := .bool false) rfl; have x7 := HX.out.cell 7 (u := .int .i64 0) rfl
  simp only [Nat.reduceMul] at u0
  have CF := canFold_any false false false 0 (w.alloc (.cells #[.slice (some ⟨kb, ko, none⟩) 4 kc, .int .i64 0, .int .i64 0, .slice na 1 nc, .bool false, .bool false, .bool false, .int .i64 0] 34))
  rw [decide_eq_true (by decide)] at CF
  have CWA := within_any 4 1 5000 (w.alloc (.cells #[.slice (some ⟨kb, ko, none⟩) 4 kc, .int .i64 0, .int .i64 0, .slice na 1 nc, .bool false, .bool false, .bool false, .int .i64 0] 34))
  have CWB := within_any 0 0 20 (w.alloc (.cells #[.slice (some ⟨kb, ko, none⟩) 4 kc, .int .i64 0, .int .i64 0, .slice na 1 nc, .bool false, .bool false, .bool false, .int .i64 0] 34))
  have CWC := within_any 0 0 5000 (w.alloc (.cells #[.slice (some ⟨kb, ko, none⟩) 4 kc, .int .i64 0, .int .i64 0, .slice na 1 nc, .bool false, .bool false, .bool false, .int .i64 0] 34))
  rw [decide_eq_true (by decide)] at CWA CWB CWC
  clear W1 h hat hA3
  go_enter Tryz.func29, Tryz.ntmps29
  go_wp2_with fail
  go_at_call 38
  refine CWA.mono ?_
  rintro e w3 ⟨rfl, rfl⟩
  go_wp2_with fail
  go_at_call 38
  refine CWB.mono ?_
  rintro e w3 ⟨rfl, rfl⟩
  go_wp2_with fail
  go_at_call 38
  refine CWC.mono ?_
  rintro e w3 ⟨rfl, rfl⟩
  go_wp2_with fail
  go_at_call 14
  refine CF.mono ?_
  rintro e w4 ⟨rfl, b4⟩
  have HB4 : Hid (Below w.heap.size w w4) := HW1.out.trans (below_less b4 (by omega))
  clear b4
  go_wp2
  go_ret
  exact ⟨rfl, HB4.out⟩
set_option maxRecDepth 10000 in
set_option maxHeartbeats 4000000 in
theorem can_aw (ka : Option Addr) (kc : Nat) (na : Option Addr) (nc : Nat) (s0 s1 s2 s3 : SV) (w : World) (h : CR w ka (awP s0 s1 s2 s3)) (hr : RV w s1.1 [(5, 6)]) (hs1 : s1.2.1 = 1) :
    Calls Tryz.prog 12 #[.agg #[.slice ka 4 kc, .int .i64 0, .int .i64 0, .slice na 1 nc, .bool false, .bool false, .bool false, .int .i64 0]] w fun e w' => e = .returned (.bool true) ∧ Below w.heap.size w w' := by
  obtain ⟨kb, ko, rfl, hat⟩ := h.pos (by simp [awP])
  have hkb : kb < w.heap.size := CR.lt hat (by simp [awP])
  have HAT : Hid (∀ k i, (awP s0 s1 s2 s3)[k]? = some i → At6 w kb (ko + k * 6) i) := hat
  have W1 : Below w.heap.size w (w.alloc (.cells #[.slice (some ⟨kb, ko, none⟩) 4 kc, .int .i64 0, .int .i64 0, .slice na 1 nc, .bool false, .bool false, .bool false, .int .i64 0] 34)) := (Below.refl _ _).alloc (Nat.le_refl _) _
  have HX : Hid (Bk (w.alloc (.cells #[.slice (some ⟨kb, ko, none⟩) 4 kc, .int .i64 0, .int .i64 0, .slice na 1 nc, .bool false, .bool false, .bool false, .int .i64 0] 34)) w.heap.size #[.slice (some ⟨kb, ko, none⟩) 4 kc, .int .i64 0, .int .i64 0, .slice na 1 nc, .bool false, .bool false, .bool false, .int .i64 0] 34) := Bk.new w _ _
  have HW1 : Hid (Below w.heap.size w (w.alloc (.cells #[.slice (some ⟨kb, ko, none⟩) 4 kc, .int .i64 0, .int .i64 0, .slice na 1 nc, .bool false, .bool false, .bool false, .int .i64 0] 34))) := W1
  have hsz : (w.alloc (.cells #[.slice (some ⟨kb, ko, none⟩) 4 kc, .int .i64 0, .int .i64 0, .slice na 1 nc, .bool false, .bool false, .bool false, .int .i64 0] 34)).heap.size = w.heap.size + 1 := by simp
  have CHV := have_aw (some ⟨kb, ko, none⟩) kc na nc s0 s1 s2 s3 (w.alloc (.cells #[.slice (some ⟨kb, ko, none⟩) 4 kc, .int .i64 0, .int .i64 0, .slice na 1 nc, .bool false, .bool false, .bool false, .int .i64 0] 34)) (h.below W1)
  have HCB : Hid (∀ W, Below w.heap.size w W → Calls Tryz.prog 30 #[.slice (some ⟨kb, ko, none⟩) 4 kc] W fun e w' => ∃ ia, e = .returned (.tuple #[.slice ia 4 4, .bool true]) ∧ Below W.heap.size W w') := fun W hW => blocks_aw (some ⟨kb, ko, none⟩) kc s0 s1 s2 s3 W (h.below hW)
  have HRV : Hid (∀ W, Below w.heap.size w W → RV W s1.1 [(5, 6)]) := fun W hW => hr.below hW
  obtain ⟨a0, l0, e0⟩ := s0
  obtain ⟨a1, l1, e1⟩ := s1
  obtain ⟨a2, l2, e2⟩ := s2
  obtain ⟨a3, l3, e3⟩ := s3
  simp only at hs1
  subst hs1
  have x0 := HX.out.cell 0 (u := .slice (some ⟨kb, ko, none⟩) 4 kc) rfl; have x1 := HX.out.cell 1 (u := .int .i64 0) rfl; have x2 := HX.out.cell 2 (u := .int .i64 0) rfl; have x3 := HX.out.cell 3 (u := .slice na 1 nc) rfl; have x4 := HX.out.cell 4 (u := .bool false) rfl; have x5 := HX.out.cell 5 (u := .bool false) rfl; have x6 := HX.out.cell 6 (u := .bool false) rfl; have x7 := HX.out.cell 7 (u := .int .i64 0) rfl
  clear W1 h hat hr
  go_enter Tryz.func12, Tryz.ntmps12
  go_wp2_with fail
  go_at_call 29
  refine CHV.mono ?_
  clear CHV x0 x1 x2 x3 x4 x5 x6 x7
  rintro e w2 ⟨rfl, b2⟩
  have HW2 : Hid (Below w.heap.size w w2) := HW1.out.trans (below_less b2 (by omega))
  have HX2 : Hid (Bk w2 w.heap.size #[.slice (some ⟨kb, ko, none⟩) 4 kc, .int .i64 0, .int .i64 0, .slice na 1 nc, .bool false, .bool false, .bool false, .int .i64 0] 34) := HX.out.on b2
  have CB := HCB.out w2 HW2.out
  have x0 := HX2.out.cell 0 (u := .slice (some ⟨kb, ko, none⟩) 4 kc) rfl; have x1 := HX2.out.cell 1 (u := .int .i64 0) rfl; have x2 := HX2.out.cell 2 (u := .int .i64 0) rfl; have x3 := HX2.out.cell 3 (u := .slice na 1 nc) rfl; have x4 := HX2.out.cell 4 (u := .bool false) rfl; have x5 := HX2.out.cell 5 (u := .bool false) rfl; have x6 := HX2.out.cell 6 (u := .bool false) rfl; have x7 := HX2.out.cell 7 (u := .int .i64 0) rfl
  clear b2
  go_wp2_with fail
  go_at_call 30
  refine CB.mono ?_
  clear CB x0 x1 x2 x3 x4 x5 x6 x7
  rintro e w3 ⟨ia, rfl, b3⟩
  have HW3 : Hid (Below w.heap.size w w3) := HW2.out.trans (below_less b3 HW2.out.size)
  have HX3 : Hid (Bk w3 w.heap.size #[.slice (some ⟨kb, ko, none⟩) 4 kc, .int .i64 0, .int .i64 0, .slice na 1 nc, .bool false, .bool false, .bool false, .int .i64 0] 34) := HX2.out.on b3
  have x0 := HX3.out.cell 0 (u := .slice (some ⟨kb, ko, none⟩) 4 kc) rfl; have x1 := HX3.out.cell 1 (u := .int .i64 0) rfl; have x2 := HX3.out.cell 2 (u := .int .i64 0) rfl; have x3 := HX3.out.cell 3 (u := .slice na 1 nc) rfl; have x4 := HX3.out.cell 4 (u := .bool false) rfl; have x5 := HX3.out.cell 5 (u := .bool false) rfl; have x6 := HX3.out.cell 6 (u := .bool false) rfl; have x7 := HX3.out.cell 7 (u := .int .i64 0) rfl
  clear b3
  go_wp2
  go_loopw [21] (fun i wr => ∃ (k : Nat), k ≤ 4 ∧ i = .int .i64 k ∧ Hid (Below w.heap.size w wr) ∧ Hid (Bk wr w.heap.size #[.slice (some ⟨kb, ko, none⟩) 4 kc, .int .i64 0, .int .i64 0, .slice na 1 nc, .bool false, .bool false, .bool false, .int .i64 0] 34)) (fun i _ => 4 - (intOf i).toNat)
  case atStart => exact ⟨0, by omega, rfl, HW3, HX3⟩
  case round =>
    obtain ⟨k, hk, rfl, HW, HXr⟩ := hrel
    clear HW3 HX3 x0 x1 x2 x3 x4 x5 x6 x7
    by_cases hlt : k < 4
    · have hsr := HW.out.size
      have hwl := HXr.out.lt
      obtain rfl | rfl | rfl | rfl : k = 0 ∨ k = 1 ∨ k = 2 ∨ k = 3 := by omega
      · have hA : At6 wr kb (ko + 0 * 6) ⟨4, 0, 0, 0, 0, (a0, l0, e0)⟩ := fun j u hu => (HW.out.cell (p := ⟨kb, ko + 0 * 6 + j, none⟩) hkb).trans (HAT.out 0 _ rfl j u hu)
        have u0 := hA.c0; have u1 := hA.c1; have u2 := hA.c2; have u3 := hA.c3; have u4 := hA.c4; have u5 := hA.c5
        simp only [Nat.reduceMul, Nat.zero_mul, Nat.one_mul, Nat.add_zero, Nat.add_assoc, Nat.reduceAdd] at u0 u1 u2 u3 u4 u5
        have Wq : Below wr.heap.size wr (wr.alloc (.cells #[.int .i64 4, .int .i64 0, .int .i64 0, .int .i64 0, .int .i64 0, .slice a0 l0 e0] 66)) := (Below.refl _ wr).alloc (Nat.le_refl _) _
        have HWq : Hid (Below w.heap.size w (wr.alloc (.cells #[.int .i64 4, .int .i64 0, .int .i64 0, .int .i64 0, .int .i64 0, .slice a0 l0 e0] 66))) := HW.out.trans (below_less Wq hsr)
        have HTq : Hid (Bk (wr.alloc (.cells #[.int .i64 4, .int .i64 0, .int .i64 0, .int .i64 0, .int .i64 0, .slice a0 l0 e0] 66)) wr.heap.size #[.int .i64 4, .int .i64 0, .int .i64 0, .int .i64 0, .int .i64 0, .slice a0 l0 e0] 66) := Bk.new wr _ _
        have HXq : Hid (Bk (wr.alloc (.cells #[.int .i64 4, .int .i64 0, .int .i64 0, .int .i64 0, .int .i64 0, .slice a0 l0 e0] 66)) w.heap.size #[.slice (some ⟨kb, ko, none⟩) 4 kc, .int .i64 0, .int .i64 0, .slice na 1 nc, .bool false, .bool false, .bool false, .int .i64 0] 34) := HXr.out.on Wq
        have hzq : ((wr.alloc (.cells #[.int .i64 4, .int .i64 0, .int .i64 0, .int .i64 0, .int .i64 0, .slice a0 l0 e0] 66))).heap.size = wr.heap.size + 1 := by simp
        have C1 := stand_4 (some ⟨kb, ko, none⟩) kc na nc 0 0 0 a0 l0 e0 (wr.alloc (.cells #[.int .i64 4, .int .i64 0, .int .i64 0, .int .i64 0, .int .i64 0, .slice a0 l0 e0] 66)) 0 (by decide)
        have hxq := HXq.out
        have x0 := hxq.cell 0 (u := .slice (some ⟨kb, ko, none⟩) 4 kc) rfl; have x1 := hxq.cell 1 (u := .int .i64 0) rfl; have x2 := hxq.cell 2 (u := .int .i64 0) rfl; have x3 := hxq.cell 3 (u := .slice na 1 nc) rfl; have x4 := hxq.cell 4 (u := .bool false) rfl; have x5 := hxq.cell 5 (u := .bool false) rfl; have x6 := hxq.cell 6 (u := .bool false) rfl; have x7 := hxq.cell 7 (u := .int .i64 0) rfl
        clear hxq hA Wq
        go_wp2_with fail
        go_at_call 31
        refine C1.mono ?_
        clear C1 x0 x1 x2 x3 x4 x5 x6 x7 u0 u1 u2 u3 u4 u5
        rintro e w5 ⟨rfl, b5⟩
        have HW5 : Hid (Below w.heap.size w w5) := HWq.out.trans (below_less b5 (by omega))
        have ht5 := HTq.out.on b5
        have HX5 : Hid (Bk w5 w.heap.size #[.slice (some ⟨kb, ko, none⟩) 4 kc, .int .i64 0, .int .i64 0, .slice na 1 nc, .bool false, .bool false, .bool false, .int .i64 0] 34) := HXq.out.on b5
        have t0 := ht5.cell 0 (u := .int .i64 4) rfl; have t1 := ht5.cell 1 (u := .int .i64 0) rfl; have t2 := ht5.cell 2 (u := .int .i64 0) rfl; have t3 := ht5.cell 3 (u := .int .i64 0) rfl; have t4 := ht5.cell 4 (u := .int .i64 0) rfl; have t5 := ht5.cell 5 (u := .slice a0 l0 e0) rfl
        have C2 := stay_4 ia 4 0 0 0 0 0 a0 l0 e0 w5
        clear ht5 b5
        go_wp2_with fail
        go_at_call 32
        refine C2.mono ?_
        clear C2 t0 t1 t2 t3 t4 t5
        rintro e w6 ⟨rfl, b6⟩
        have HW6 : Hid (Below w.heap.size w w6) := HW5.out.trans (below_less b6 HW5.out.size)
        have HX6 : Hid (Bk w6 w.heap.size #[.slice (some ⟨kb, ko, none⟩) 4 kc, .int .i64 0, .int .i64 0, .slice na 1 nc, .bool false, .bool false, .bool false, .int .i64 0] 34) := HX5.out.on b6
        clear b6
        go_wp2
        go_roundw
        case rel => exact ⟨1, by omega, rfl, HW6, HX6⟩
        case measure => simp [intOf]
      · have hA : At6 wr kb (ko + 1 * 6) ⟨1, 0, 0, 0, 0, (a1, 1, e1)⟩ := fun j u hu => (HW.out.cell (p := ⟨kb, ko + 1 * 6 + j, none⟩) hkb).trans (HAT.out 1 _ rfl j u hu)
        have u0 := hA.c0; have u1 := hA.c1; have u2 := hA.c2; have u3 := hA.c3; have u4 := hA.c4; have u5 := hA.c5
        simp only [Nat.reduceMul, Nat.zero_mul, Nat.one_mul, Nat.add_zero, Nat.add_assoc, Nat.reduceAdd] at u0 u1 u2 u3 u4 u5
        have Wq : Below wr.heap.size wr (wr.alloc (.cells #[.int .i64 1, .int .i64 0, .int .i64 0, .int .i64 0, .int .i64 0, .slice a1 1 e1] 66)) := (Below.refl _ wr).alloc (Nat.le_refl _) _
        have HWq : Hid (Below w.heap.size w (wr.alloc (.cells #[.int .i64 1, .int .i64 0, .int .i64 0, .int .i64 0, .int .i64 0, .slice a1 1 e1] 66))) := HW.out.trans (below_less Wq hsr)
        have HTq : Hid (Bk (wr.alloc (.cells #[.int .i64 1, .int .i64 0, .int .i64 0, .int .i64 0, .int .i64 0, .slice a1 1 e1] 66)) wr.heap.size #[.int .i64 1, .int .i64 0, .int .i64 0, .int .i64 0, .int .i64 0, .slice a1 1 e1] 66) := Bk.new wr _ _
        have HXq : Hid (Bk (wr.alloc (.cells #[.int .i64 1, .int .i64 0, .int .i64 0, .int .i64 0, .int .i64 0, .slice a1 1 e1] 66)) w.heap.size #[.slice (some ⟨kb, ko, none⟩) 4 kc, .int .i64 0, .int .i64 0, .slice na 1 nc, .bool false, .bool false, .bool false, .int .i64 0] 34) := HXr.out.on Wq
        have hzq : ((wr.alloc (.cells #[.int .i64 1, .int .i64 0, .int .i64 0, .int .i64 0, .int .i64 0, .slice a1 1 e1] 66))).heap.size = wr.heap.size + 1 := by simp
        have C1 := stand_1 (some ⟨kb, ko, none⟩) kc na nc 0 0 0 a1 1 e1 (wr.alloc (.cells #[.int .i64 1, .int .i64 0, .int .i64 0, .int .i64 0, .int .i64 0, .slice a1 1 e1] 66)) 0 (HRV.out _ HWq.out)
        have hxq := HXq.out
        have x0 := hxq.cell 0 (u := .slice (some ⟨kb, ko, none⟩) 4 kc) rfl; have x1 := hxq.cell 1 (u := .int .i64 0) rfl; have x2 := hxq.cell 2 (u := .int .i64 0) rfl; have x3 := hxq.cell 3 (u := .slice na 1 nc) rfl; have x4 := hxq.cell 4 (u := .bool false) rfl; have x5 := hxq.cell 5 (u := .bool false) rfl; have x6 := hxq.cell 6 (u := .bool false) rfl; have x7 := hxq.cell 7 (u := .int .i64 0) rfl
        clear hxq hA Wq
        go_wp2_with fail
        go_at_call 31
        refine C1.mono ?_
        clear C1 x0 x1 x2 x3 x4 x5 x6 x7 u0 u1 u2 u3 u4 u5
        rintro e w5 ⟨rfl, b5⟩
        have HW5 : Hid (Below w.heap.size w w5) := HWq.out.trans (below_less b5 (by omega))
        have ht5 := HTq.out.on b5
        have HX5 : Hid (Bk w5 w.heap.size #[.slice (some ⟨kb, ko, none⟩) 4 kc, .int .i64 0, .int .i64 0, .slice na 1 nc, .bool false, .bool false, .bool false, .int .i64 0] 34) := HXq.out.on b5
        have t0 := ht5.cell 0 (u := .int .i64 1) rfl; have t1 := ht5.cell 1 (u := .int .i64 0) rfl; have t2 := ht5.cell 2 (u := .int .i64 0) rfl; have t3 := ht5.cell 3 (u := .int .i64 0) rfl; have t4 := ht5.cell 4 (u := .int .i64 0) rfl; have t5 := ht5.cell 5 (u := .slice a1 1 e1) rfl
        have C2 := stay_1 ia 4 1 0 0 0 0 a1 1 e1 w5
        clear ht5 b5
        go_wp2_with fail
        go_at_call 32
        refine C2.mono ?_
        clear C2 t0 t1 t2 t3 t4 t5
        rintro e w6 ⟨rfl, b6⟩
        have HW6 : Hid (Below w.heap.size w w6) := HW5.out.trans (below_less b6 HW5.out.size)
        have HX6 : Hid (Bk w6 w.heap.size #[.slice (some ⟨kb, ko, none⟩) 4 kc, .int .i64 0, .int .i64 0, .slice na 1 nc, .bool false, .bool false, .bool false, .int .i64 0] 34) := HX5.out.on b6
        clear b6
        go_wp2
        go_roundw
        case rel => exact ⟨2, by omega, rfl, HW6, HX6⟩
        case measure => simp [intOf]
      · have hA : At6 wr kb (ko + 2 * 6) ⟨4, 1, 0, 0, 0, (a2, l2, e2)⟩ := fun j u hu => (HW.out.cell (p := ⟨kb, ko + 2 * 6 + j, none⟩) hkb).trans (HAT.out 2 _ rfl j u hu)
        have u0 := hA.c0; have u1 := hA.c1; have u2 := hA.c2; have u3 := hA.c3; have u4 := hA.c4; have u5 := hA.c5
        simp only [Nat.reduceMul, Nat.zero_mul, Nat.one_mul, Nat.add_zero, Nat.add_assoc, Nat.reduceAdd] at u0 u1 u2 u3 u4 u5
        have Wq : Below wr.heap.size wr (wr.alloc (.cells #[.int .i64 4, .int .i64 1, .int .i64 0, .int .i64 0, .int .i64 0, .slice a2 l2 e2] 66)) := (Below.refl _ wr).alloc (Nat.le_refl _) _
        have HWq : Hid (Below w.heap.size w (wr.alloc (.cells #[.int .i64 4, .int .i64 1, .int .i64 0, .int .i64 0, .int .i64 0, .slice a2 l2 e2] 66))) := HW.out.trans (below_less Wq hsr)
        have HTq : Hid (Bk (wr.alloc (.cells #[.int .i64 4, .int .i64 1, .int .i64 0, .int .i64 0, .int .i64 0, .slice a2 l2 e2] 66)) wr.heap.size #[.int .i64 4, .int .i64 1, .int .i64 0, .int .i64 0, .int .i64 0, .slice a2 l2 e2] 66) := Bk.new wr _ _
        have HXq : Hid (Bk (wr.alloc (.cells #[.int .i64 4, .int .i64 1, .int .i64 0, .int .i64 0, .int .i64 0, .slice a2 l2 e2] 66)) w.heap.size #[.slice (some ⟨kb, ko, none⟩) 4 kc, .int .i64 0, .int .i64 0, .slice na 1 nc, .bool false, .bool false, .bool false, .int .i64 0] 34) := HXr.out.on Wq
        have hzq : ((wr.alloc (.cells #[.int .i64 4, .int .i64 1, .int .i64 0, .int .i64 0, .int .i64 0, .slice a2 l2 e2] 66))).heap.size = wr.heap.size + 1 := by simp
        have C1 := stand_4 (some ⟨kb, ko, none⟩) kc na nc 0 0 0 a2 l2 e2 (wr.alloc (.cells #[.int .i64 4, .int .i64 1, .int .i64 0, .int .i64 0, .int .i64 0, .slice a2 l2 e2] 66)) 1 (by decide)
        have hxq := HXq.out
        have x0 := hxq.cell 0 (u := .slice (some ⟨kb, ko, none⟩) 4 kc) rfl; have x1 := hxq.cell 1 (u := .int .i64 0) rfl; have x2 := hxq.cell 2 (u := .int .i64 0) rfl; have x3 := hxq.cell 3 (u := .slice na 1 nc) rfl; have x4 := hxq.cell 4 (u := .bool false) rfl; have x5 := hxq.cell 5 (u := .bool false) rfl; have x6 := hxq.cell 6 (u := .bool false) rfl; have x7 := hxq.cell 7 (u := .int .i64 0) rfl
        clear hxq hA Wq
        go_wp2_with fail
        go_at_call 31
        refine C1.mono ?_
        clear C1 x0 x1 x2 x3 x4 x5 x6 x7 u0 u1 u2 u3 u4 u5
        rintro e w5 ⟨rfl, b5⟩
        have HW5 : Hid (Below w.heap.size w w5) := HWq.out.trans (below_less b5 (by omega))
        have ht5 := HTq.out.on b5
        have HX5 : Hid (Bk w5 w.heap.size #[.slice (some ⟨kb, ko, none⟩) 4 kc, .int .i64 0, .int .i64 0, .slice na 1 nc, .bool false, .bool false, .bool false, .int .i64 0] 34) := HXq.out.on b5
        have t0 := ht5.cell 0 (u := .int .i64 4) rfl; have t1 := ht5.cell 1 (u := .int .i64 1) rfl; have t2 := ht5.cell 2 (u := .int .i64 0) rfl; have t3 := ht5.cell 3 (u := .int .i64 0) rfl; have t4 := ht5.cell 4 (u := .int .i64 0) rfl; have t5 := ht5.cell 5 (u := .slice a2 l2 e2) rfl
        have C2 := stay_4 ia 4 2 1 0 0 0 a2 l2 e2 w5
        clear ht5 b5
        go_wp2_with fail
        go_at_call 32
        refine C2.mono ?_
        clear C2 t0 t1 t2 t3 t4 t5
        rintro e w6 ⟨rfl, b6⟩
        have HW6 : Hid (Below w.heap.size w w6) := HW5.out.trans (below_less b6 HW5.out.size)
        have HX6 : Hid (Bk w6 w.heap.size #[.slice (some ⟨kb, ko, none⟩) 4 kc, .int .i64 0, .int .i64 0, .slice na 1 nc, .bool false, .bool false, .bool false, .int .i64 0] 34) := HX5.out.on b6
        clear b6
        go_wp2
        go_roundw
        case rel => exact ⟨3, by omega, rfl, HW6, HX6⟩
        case measure => simp [intOf]
      · have hA : At6 wr kb (ko + 3 * 6) ⟨12, 0, 0, 0, 0, (a3, l3, e3)⟩ := fun j u hu => (HW.out.cell (p := ⟨kb, ko + 3 * 6 + j, none⟩) hkb).trans (HAT.out 3 _ rfl j u hu)
        have u0 := hA.c0; have u1 := hA.c1; have u2 := hA.c2; have u3 := hA.c3; have u4 := hA.c4; have u5 := hA.c5
        simp only [Nat.reduceMul, Nat.zero_mul, Nat.one_mul, Nat.add_zero, Nat.add_assoc, Nat.reduceAdd] at u0 u1 u2 u3 u4 u5
        have Wq : Below wr.heap.size wr (wr.alloc (.cells #[.int .i64 12, .int .i64 0, .int .i64 0, .int .i64 0, .int .i64 0, .slice a3 l3 e3] 66)) := (Below.refl _ wr).alloc (Nat.le_refl _) _
        have HWq : Hid (Below w.heap.size w (wr.alloc (.cells #[.int .i64 12, .int .i64 0, .int .i64 0, .int .i64 0, .int .i64 0, .slice a3 l3 e3] 66))) := HW.out.trans (below_less Wq hsr)
        have HTq : Hid (Bk (wr.alloc (.cells #[.int .i64 12, .int .i64 0, .int .i64 0, .int .i64 0, .int .i64 0, .slice a3 l3 e3] 66)) wr.heap.size #[.int .i64 12, .int .i64 0, .int .i64 0, .int .i64 0, .int .i64 0, .slice a3 l3 e3] 66) := Bk.new wr _ _
        have HXq : Hid (Bk (wr.alloc (.cells #[.int .i64 12, .int .i64 0, .int .i64 0, .int .i64 0, .int .i64 0, .slice a3 l3 e3] 66)) w.heap.size #[.slice (some ⟨kb, ko, none⟩) 4 kc, .int .i64 0, .int .i64 0, .slice na 1 nc, .bool false, .bool false, .bool false, .int .i64 0] 34) := HXr.out.on Wq
        have hzq : ((wr.alloc (.cells #[.int .i64 12, .int .i64 0, .int .i64 0, .int .i64 0, .int .i64 0, .slice a3 l3 e3] 66))).heap.size = wr.heap.size + 1 := by simp
        have C1 := stand_12 (some ⟨kb, ko, none⟩) kc na nc 0 0 0 a3 l3 e3 (wr.alloc (.cells #[.int .i64 12, .int .i64 0, .int .i64 0, .int .i64 0, .int .i64 0, .slice a3 l3 e3] 66)) 0
        have hxq := HXq.out
        have x0 := hxq.cell 0 (u := .slice (some ⟨kb, ko, none⟩) 4 kc) rfl; have x1 := hxq.cell 1 (u := .int .i64 0) rfl; have x2 := hxq.cell 2 (u := .int .i64 0) rfl; have x3 := hxq.cell 3 (u := .slice na 1 nc) rfl; have x4 := hxq.cell 4 (u := .bool false) rfl; have x5 := hxq.cell 5 (u := .bool false) rfl; have x6 := hxq.cell 6 (u := .bool false) rfl; have x7 := hxq.cell 7 (u := .int .i64 0) rfl
        clear hxq hA Wq
        go_wp2_with fail
        go_at_call 31
        refine C1.mono ?_
        clear C1 x0 x1 x2 x3 x4 x5 x6 x7 u0 u1 u2 u3 u4 u5
        rintro e w5 ⟨rfl, b5⟩
        have HW5 : Hid (Below w.heap.size w w5) := HWq.out.trans (below_less b5 (by omega))
        have ht5 := HTq.out.on b5
        have HX5 : Hid (Bk w5 w.heap.size #[.slice (some ⟨kb, ko, none⟩) 4 kc, .int .i64 0, .int .i64 0, .slice na 1 nc, .bool false, .bool false, .bool false, .int .i64 0] 34) := HXq.out.on b5
        have t0 := ht5.cell 0 (u := .int .i64 12) rfl; have t1 := ht5.cell 1 (u := .int .i64 0) rfl; have t2 := ht5.cell 2 (u := .int .i64 0) rfl; have t3 := ht5.cell 3 (u := .int .i64 0) rfl; have t4 := ht5.cell 4 (u := .int .i64 0) rfl; have t5 := ht5.cell 5 (u := .slice a3 l3 e3) rfl
        have C2 := stay_12 ia 4 3 0 0 0 0 a3 l3 e3 w5
        clear ht5 b5
        go_wp2_with fail
        go_at_call 32
        refine C2.mono ?_
        clear C2 t0 t1 t2 t3 t4 t5
        rintro e w6 ⟨rfl, b6⟩
        have HW6 : Hid (Below w.heap.size w w6) := HW5.out.trans (below_less b6 HW5.out.size)
        have HX6 : Hid (Bk w6 w.heap.size #[.slice (some ⟨kb, ko, none⟩) 4 kc, .int .i64 0, .int .i64 0, .slice na 1 nc, .bool false, .bool false, .bool false, .int .i64 0] 34) := HX5.out.on b6
        clear b6
        go_wp2
        go_roundw
        case rel => exact ⟨4, by omega, rfl, HW6, HX6⟩
        case measure => simp [intOf]
    · have hk4 : k = 4 := by omega
      clear hlt
      subst hk4
      go_wp2
      go_ret
      exact ⟨rfl, HW.out⟩
end Go.Proofs.YtjbcapnpknbbaaaGreat.cmp
