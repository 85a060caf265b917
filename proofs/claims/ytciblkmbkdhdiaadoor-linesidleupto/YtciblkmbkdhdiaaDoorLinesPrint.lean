/- The statement LinesPrint, walked. -/
import Derived.Test.YtciblkmbkdhdiaaDoorLinRefPrint
import Derived.Test.YtciblkmbkdhdiaaDoorLinAwake
set_option linter.unusedVariables false
set_option linter.unusedSimpArgs false
namespace Go.Proofs.YtciblkmbkdhdiaaDoor.lin
open Go.RowKit

theorem InRecs.below {w w' : World} {v : Value} {rs : List RecT} (h : InRecs w v rs) {n : Nat} (hb : Below n w w') (hn : w.heap.size ≤ n) : InRecs w' v rs := by
  obtain ⟨a, c, rfl, hv⟩ := h
  refine ⟨a, c, rfl, fun h => ?_⟩
  obtain ⟨g, o, rfl, hr⟩ := hv h
  exact ⟨g, o, rfl, fun i r hi => (hr i r hi).below hb hn⟩

set_option maxHeartbeats 1000000 in
theorem linesPrint_any (v : Value) (rs : List RecT) (w : World) (m : Int) (hv : InRecs w v rs) (hn : rs.length ≤ 1048576) (hz : ∀ r ∈ rs, r.2.2.length ≤ 1048576 ∧ ∀ f ∈ r.2.2, f.size ≤ 1048576) (hM : (rs.map recMax).sum ≤ 1099511627776)
    (hd : w.cell? ⟨6, 15, none⟩ = some (.int .u8 4)) (hlt : 6 < w.heap.size)
    (hm : w.cell? ⟨2, 0, none⟩ = some (.int .i64 m)) (hm2 : 2 < w.heap.size) :
    Calls Tryd.prog 5 #[v] w fun e w' => e = .returned (.bool true) ∧ Below w.heap.size w w' := by
  have P1 := print_any v rs w hv hn hz hM hd hlt
  have HV : Hid (InRecs w v rs) := hv
  have HZ : Hid (∀ r ∈ rs, r.2.2.length ≤ 1048576 ∧ ∀ f ∈ r.2.2, f.size ≤ 1048576) := hz
  have HM : Hid (∀ W, Below w.heap.size w W → Calls Tryd.prog 17 #[] W fun e w' => e = .returned (.bool true) ∧ Below W.heap.size W w') := fun W h => awake_any W m ((h.cell (p := ⟨2, 0, none⟩) hm2).trans hm) (by have := h.size; omega)
  clear hd hm hz hv
  go_enter Tryd.func5, Tryd.ntmps5
  go_wp2_with fail
  refine P1.mono ?_
  rintro e w2 ⟨rfl, b2⟩
  clear P1
  have P2 := rprint_any v rs w2 (HV.out.below b2 (Nat.le_refl _)) hn HZ.out hM
  clear HV HZ
  generalize BA (printV rs).1 = S at *
  generalize (printV rs).2 = E at *
  go_wp2_with fail
  refine P2.mono ?_
  rintro e w3 ⟨rfl, b3⟩
  have b13 := b2.trans (b3.mono b2.size)
  clear P2
  have t1 : (S.toList == S.toList) = true := by simp
  have t2 : (E == E) = true := by simp
  go_wp2_with fail
  refine (HM.out _ b13).mono ?_
  rintro e w4 ⟨rfl, b4⟩
  go_wp2
  go_ret
  exact ⟨rfl, b13.trans (b4.mono b13.size)⟩
end Go.Proofs.YtciblkmbkdhdiaaDoor.lin
