/- The statement LinesHex, walked: it answers true of any string. -/
import Derived.Test.YtciblkmbkdhdiaaDoorLinAwake
import Derived.Test.YtciblkmbkdhdiaaDoorLinHex2
set_option linter.unusedVariables false
set_option linter.unusedSimpArgs false
namespace Go.Proofs.YtciblkmbkdhdiaaDoor.lin
open Go.RowKit

set_option maxHeartbeats 1000000 in
theorem linesHex_any (s : ByteArray) (w : World) (m : Int) (hs : s.size ≤ 9223372036854775807) (hm : w.cell? ⟨2, 0, none⟩ = some (.int .i64 m)) (hm2 : 2 < w.heap.size) :
    Calls Tryd.prog 4 #[.string s] w fun e w' => e = .returned (.bool true) ∧ Below w.heap.size w w' := by
  have HX := hex_any s w hs
  go_enter Tryd.func4, Tryd.ntmps4
  go_wp2_with fail
  refine HX.mono ?_
  rintro e w2 ⟨rfl, hb⟩
  have RX := rhex_any s w2 hs
  have AW := awake_any w2 m ((hb.cell (p := ⟨2, 0, none⟩) hm2).trans hm) (by have := hb.size; omega)
  clear HX
  generalize hexN s = n at *
  generalize hexB s = ok at *
  go_wp2_with fail
  refine RX.mono ?_
  rintro e w3 ⟨rfl, rfl⟩
  have t1 : (n == n) = true := by simp
  have t2 : (ok == ok) = true := by simp
  go_wp2_with fail
  refine AW.mono ?_
  rintro e w4 ⟨rfl, hb4⟩
  go_wp2
  go_ret
  exact ⟨rfl, hb.trans (hb4.mono hb.size)⟩
end Go.Proofs.YtciblkmbkdhdiaaDoor.lin
