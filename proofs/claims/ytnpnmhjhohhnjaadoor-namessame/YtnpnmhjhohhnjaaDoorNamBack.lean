/- slices.Backward over rows of strings: its closure gives them with their places, from the last one on. -/
import Derived.Test.YtnpnmhjhohhnjaaDoorLinRows
set_option linter.unusedVariables false
set_option linter.unusedSimpArgs false
namespace Go.Proofs.YtnpnmhjhohhnjaaDoor.nam
open Go.RowKit Go.Shelf lin
attribute [local go_sem] Oper.semAt_some

abbrev Elt := Nat × Value
def encB (x : Elt) : Array Value := #[.int .i64 (x.1 : Int), x.2]
/-- Elements with their places, the last one first. -/
def backs (vs : List Value) : List Elt := (vs.zipIdx.map fun p => (p.2, p.1)).reverse
theorem backs_snoc (vs : List Value) (v : Value) : backs (vs ++ [v]) = (vs.length, v) :: backs vs := by
  unfold backs
  rw [List.zipIdx_append]
  simp
theorem backs_take (vs : List Value) (k : Nat) (h : k < vs.length) : backs (vs.take (k + 1)) = (k, vs[k]) :: backs (vs.take k) := by
  rw [List.take_add_one, List.getElem?_eq_getElem h]
  show backs (vs.take k ++ [vs[k]]) = _
  rw [backs_snoc, List.length_take]
  congr 2
  omega

/-- In block c lies the slice of values vs, whose cells lie in block g. -/
structure Rev (W : World) (c g off cap : Nat) (vs : List Value) : Prop where
  box : Boxed W c 31 (.slice (some ⟨g, off, none⟩) vs.length cap)
  cell : ∀ i (h : i < vs.length), W.cell? ⟨g, off + i, none⟩ = some vs[i]

theorem cell_keep {lo hi : Nat} {A B : World} (h : Keep lo hi A B) {g o : Nat} (h1 : lo ≤ g) (h2 : g < hi) : B.cell? ⟨g, o, none⟩ = A.cell? ⟨g, o, none⟩ := by
  unfold World.cell?
  rw [h g h1 h2]

theorem Backward_any (a : Option Addr) (n c : Nat) (w : World) :
    Calls Tryd.prog 39 #[.slice a n c] w fun e w' => e = .returned (.func (.func 56) #[] #[.pointer (some ⟨w.heap.size, 0, none⟩)]) ∧ w' = w.alloc (.cells #[.slice a n c] 31) := by
  go_enter Tryd.func39, Tryd.ntmps39
  go_wp2
  go_ret
  exact ⟨rfl, rfl⟩

set_option maxHeartbeats 1000000 in
theorem back_gives (n c g off cap lo : Nat) (vs : List Value) (w : World) (hl : vs.length ≤ 1099511627776) (hr : Rev w c g off cap vs) (h1 : lo ≤ c) (h2 : lo ≤ g) (hsl : ∀ v ∈ vs, ∃ a m k, v = .slice a m k) :
    Gives n Tryd.prog 56 #[.pointer (some ⟨c, 0, none⟩)] encB (backs vs) c lo w.heap.size w := by
  intro l J Jx W hW hJ hY h0
  have hc := hr.box.lt
  have hrW : Rev W c g off cap vs := ⟨(hW.block c hc).trans hr.box, fun i h => (hW.cell (p := ⟨g, off + i, none⟩) (World.block_lt_of_cell? w _ (hr.cell i h))).trans (hr.cell i h)⟩
  refine callsIn_of_wp Tryd.func56 rfl trivial ?_ rfl
  simp only [Tryd.ntmps56, List.size_toArray, List.length_cons, List.length_nil, Nat.reduceAdd, Nat.reduceSub, Array.replicate_succ, Array.replicate_zero, List.push_toArray, List.append_toArray, List.nil_append, List.cons_append]
  have c1 := hrW.box.cell
  have wl : IntKind.i64.wrap ((vs.length : Int) - 1) = (vs.length : Int) - 1 := by rw [IntKind.wrap_i64]; omega
  gi_wp2
  clear c1
  gi_loopg [3] vs.length (fun k v wr => ∃ (pre : List Elt), k ≤ vs.length ∧ v = .int .i64 ((k : Int) - 1) ∧ Hid (pre ++ backs (vs.take k) = backs vs) ∧ Rev wr c g off cap vs ∧ J pre wr)
  case atStart => exact ⟨[], Nat.le_refl _, rfl, by rw [Hid, List.take_of_length_le (Nat.le_refl _)]; rfl, hrW, h0⟩
  case round =>
    obtain ⟨pre, hk, rfl, HX, hcr, hj⟩ := hrel
    cases gk with
    | zero =>
      have HE : pre = backs vs := by have := HX.out; simpa [backs] using this
      subst HE
      gi_wp2
      go_end0
      exact ⟨⟨_, rfl⟩, .inl hj⟩
    | succ k =>
      have hkl : k < vs.length := by omega
      have e0 : ((k + 1 : Nat) : Int) - 1 = (k : Int) := by omega
      have hkl' : (k : Int) < (vs.length : Int) := by omega
      have HX2 : backs vs = pre ++ (k, vs[k]) :: backs (vs.take k) := by rw [← HX.out, backs_take vs k hkl]
      obtain ⟨fn, tmps, assign, body, hy, hR⟩ := hY pre (k, vs[k]) _ wr HX2 hj
      have HX3 : Hid ((pre ++ [(k, vs[k])]) ++ backs (vs.take k) = backs vs) := by rw [Hid, HX2]; simp
      clear HX HX2
      have c1 := hcr.box.cell
      have c2 := hcr.cell k hkl
      obtain ⟨va, vm, vk, hv⟩ := hsl vs[k] (List.getElem_mem hkl)
      have wk : IntKind.i64.wrap ((k : Int) - 1) = (k : Int) - 1 := by rw [IntKind.wrap_i64]; omega
      rw [e0]
      simp only [encB] at hy
      generalize vs[k] = x at *
      subst hv
      gi_wp2
      refine ⟨wide_depth _, hR.mono ?_⟩
      rintro e W3 (⟨rfl, hJ3, hk3⟩ | ⟨rfl, hJx3⟩)
      · have hc3 : Rev W3 c g off cap vs := ⟨(hk3 c h1 hc).trans hcr.box, fun i h => (cell_keep hk3 h2 (World.block_lt_of_cell? w _ (hr.cell i h))).trans (hcr.cell i h)⟩
        gi_wp2
        gi_roundg k
        case measure => omega
        case rel => exact ⟨_, by omega, rfl, HX3, hc3, hJ3⟩
      · gi_wp2
        refine bodyPost_ret (results_none rfl _ _ _) rfl ?_
        exact ⟨⟨_, rfl⟩, .inr ⟨_, hJx3⟩⟩
end Go.Proofs.YtnpnmhjhohhnjaaDoor.nam
