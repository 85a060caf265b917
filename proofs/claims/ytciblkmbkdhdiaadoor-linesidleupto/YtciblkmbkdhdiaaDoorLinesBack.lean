/- The statement LinesBack, walked. -/
import Derived.Test.YtciblkmbkdhdiaaDoorLinesPrint
import Derived.Test.YtciblkmbkdhdiaaDoorLinBackPure2
set_option linter.unusedVariables false
set_option linter.unusedSimpArgs false
namespace Go.Proofs.YtciblkmbkdhdiaaDoor.lin
open Go.RowKit

theorem View.ofIn {w : World} {v : Value} {rs : List RecT} (h : InRecs w v rs) (hp : ∀ r ∈ rs, 0 < r.2.2.length) : View w v rs := by
  obtain ⟨a, c, rfl, hv⟩ := h
  refine ⟨a, c, rfl, fun h => ?_⟩
  obtain ⟨b, o, rfl, hr⟩ := hv h
  refine ⟨b, o, rfl, fun i r hi => ?_⟩
  obtain ⟨h1, h2, fv, h3, a', c', rfl, h4⟩ := hr i r hi
  obtain ⟨g, o', rfl, h5⟩ := h4 (hp r (List.mem_of_getElem? hi))
  exact ⟨h1, h2, g, o', c', h3, fun j hj => h5 j _ (by simp [List.getD, List.getElem?_eq_getElem hj])⟩
theorem size_BA (l : List UInt8) : (BA l).size = l.length := by show l.toArray.size = _; simp
theorem printV_bad {rs : List RecT} (h : rs.all (fun r => printB r.1 r.2.1 r.2.2) = false) : printV rs = ([], 1) := by unfold printV; rw [h]; rfl
theorem printV_ok {rs : List RecT} (h : rs.all (fun r => printB r.1 r.2.1 r.2.2) = true) : printV rs = (rs.flatMap recText, 0) := by unfold printV; rw [h]; rfl

set_option maxHeartbeats 1000000 in
theorem linesBack_any (v : Value) (rs : List RecT) (w : World) (m : Int) (hv : InRecs w v rs) (hn : rs.length ≤ 1048576) (hz : ∀ r ∈ rs, r.2.2.length ≤ 1048576 ∧ ∀ f ∈ r.2.2, f.size ≤ 1048576) (hM : (rs.map recMax).sum ≤ 1073741824)
    (hd : w.cell? ⟨6, 15, none⟩ = some (.int .u8 4)) (hlt : 6 < w.heap.size)
    (hm : w.cell? ⟨2, 0, none⟩ = some (.int .i64 m)) (hm2 : 2 < w.heap.size) :
    Calls Tryd.prog 6 #[v] w fun e w' => e = .returned (.bool true) ∧ Below w.heap.size w w' := by
  have P1 := print_any v rs w hv hn hz (by omega) hd hlt
  have mx : ∀ W, Below w.heap.size w W → W.cell? ⟨2, 0, none⟩ = some (.int .i64 m) ∧ 2 < W.heap.size := fun W h => ⟨(h.cell (p := ⟨2, 0, none⟩) hm2).trans hm, by have := h.size; omega⟩
  have HM : Hid (∀ W, Below w.heap.size w W → Calls Tryd.prog 17 #[] W fun e w' => e = .returned (.bool true) ∧ Below W.heap.size W w') := fun W h => awake_any W m (mx W h).1 (mx W h).2
  cases hp : rs.all (fun r => printB r.1 r.2.1 r.2.2)
  · have P2 : Hid (∀ W, Below w.heap.size w W → Calls Tryd.prog 21 #[v] W fun e w' => e = .returned (.tuple #[.string ByteArray.empty, .int .i64 1]) ∧ Below W.heap.size W w') := fun W h => by
      have := rprint_any v rs W (hv.below h (Nat.le_refl _)) hn hz (by omega)
      rw [printV_bad hp] at this
      exact this
    have P1' : Calls Tryd.prog 20 #[v] w fun e w' => e = .returned (.tuple #[.string ByteArray.empty, .int .i64 1]) ∧ Below w.heap.size w w' := by rw [printV_bad hp] at P1; exact P1
    clear hd hm hz hv P1 mx hp
    go_enter Tryd.func6, Tryd.ntmps6
    go_wp2_with fail
    refine P1'.mono ?_
    rintro e w2 ⟨rfl, b2⟩
    clear P1'
    go_wp2_with fail
    refine (P2.out w2 b2).mono ?_
    rintro e w3 ⟨rfl, b3⟩
    have b13 := b2.trans (b3.mono b2.size)
    clear P2
    go_wp2_with fail
    refine (HM.out _ b13).mono ?_
    rintro e w4 ⟨rfl, b4⟩
    go_wp2
    go_ret
    exact ⟨rfl, b13.trans (b4.mono b13.size)⟩
  · have hq : ∀ r ∈ rs, printB r.1 r.2.1 r.2.2 = true := List.all_eq_true.1 hp
    have PA : Hid (∀ W, Below w.heap.size w W → Calls Tryd.prog 9 #[.string (BA (rs.flatMap recText))] W fun e w' => ∃ x, e = .returned (.tuple #[x, .int .i64 0, .int .i64 0]) ∧ View w' x rs ∧ Below W.heap.size W w') := fun W h => by
      have k := parse_any (BA (rs.flatMap recText)) W m (by rw [size_BA]; have := text_len rs hq; omega) (mx W h).1 (mx W h).2
      rw [parse_back rs hq] at k
      exact k.mono fun e w' ⟨x, h1, h2, h3⟩ => ⟨x, h1, h2.seen, h3⟩
    have SA : Hid (∀ W x, Below w.heap.size w W → View W x rs → Calls Tryd.prog 16 #[v, x] W fun e w' => e = .returned (.bool true) ∧ Below W.heap.size W w') := fun W x h hx =>
      sameRecs_any v x rs W (by omega) (fun r hr => by have := (hz r hr).1; omega) ((View.ofIn hv (fun r hr => (printB_bounds (hq r hr)).2.2.2)).below h (Nat.le_refl _)) hx
    have P1' : Calls Tryd.prog 20 #[v] w fun e w' => e = .returned (.tuple #[.string (BA (rs.flatMap recText)), .int .i64 0]) ∧ Below w.heap.size w w' := by rw [printV_ok hp] at P1; exact P1
    clear hd hm hz hv P1 mx hp hq
    generalize BA (rs.flatMap recText) = S at *
    go_enter Tryd.func6, Tryd.ntmps6
    go_wp2_with fail
    refine P1'.mono ?_
    rintro e w2 ⟨rfl, b2⟩
    clear P1'
    go_wp2_with fail
    refine (PA.out w2 b2).mono ?_
    rintro e w3 ⟨x, rfl, hX, b3⟩
    have b13 := b2.trans (b3.mono b2.size)
    have S3 := SA.out w3 x b13 hX
    clear PA SA
    obtain ⟨xa, xc, rfl, _⟩ := hX
    go_wp2_with fail
    refine S3.mono ?_
    rintro e w4 ⟨rfl, b4⟩
    have b14 := b13.trans (b4.mono b13.size)
    clear S3
    go_wp2_with fail
    refine (HM.out _ b14).mono ?_
    rintro e w5 ⟨rfl, b5⟩
    go_wp2
    go_ret
    exact ⟨rfl, b14.trans (b5.mono b14.size)⟩
end Go.Proofs.YtciblkmbkdhdiaaDoor.lin
