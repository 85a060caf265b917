/- Nodes that a call itself lays. -/
import Derived.Test.YtjblccgkocknbaaNodKp
set_option linter.unusedVariables false
set_option linter.unusedSimpArgs false
namespace Go.Proofs.Ytjblccgkocknbaa.nod
open Go.RowKit
open Go.Proofs.Ytjblccgkocknbaa.rng (R RV)

/-! Nodes that the call itself lays -/
theorem nv_leaf (B : Nat) (w : World) (k m a b : Int) (g : Bool) (n : ByteArray) (h1 : I64 k) (h2 : I64 m) (h3 : I64 a) (h4 : I64 b) (hn : n.size ≤ maxLen) :
    NV B w (.mk k m a b g n [] []) (.agg #[.int .i64 k, .int .i64 m, .int .i64 a, .int .i64 b, .bool g, .string n, .slice none 0 0, .slice none 0 0]) :=
  NV.shut (s := []) (ks := []) ⟨h1, h2, h3, h4⟩ hn ⟨.inl rfl, fun x e => (by cases e), by simp, by simp, fun _ => rfl⟩ ⟨by simp, by simp, fun _ => rfl⟩ (.inl rfl)
theorem at8_first {w : World} {g : Nat} {t : TypeId} {c0 c1 c2 c3 c4 c5 c6 c7 : Value} (h : Bk w g #[c0, c1, c2, c3, c4, c5, c6, c7] t) : At8 w g 0 (.agg #[c0, c1, c2, c3, c4, c5, c6, c7]) :=
  ⟨c0, c1, c2, c3, c4, c5, c6, c7, rfl, h.cell 0 rfl, h.cell 1 rfl, h.cell 2 rfl, h.cell 3 rfl, h.cell 4 rfl, h.cell 5 rfl, h.cell 6 rfl, h.cell 7 rfl⟩
theorem kv_one {B : Nat} {w : World} {t : Nd} {c0 c1 c2 c3 c4 c5 c6 c7 : Value} (T : TypeId) (h : NV B w t (.agg #[c0, c1, c2, c3, c4, c5, c6, c7])) (hB : B ≤ w.heap.size) :
    KV (w.heap.size + 1) (w.alloc (.cells #[c0, c1, c2, c3, c4, c5, c6, c7] T)) (some ⟨w.heap.size, 0, none⟩) [t] := by
  refine .inr ⟨_, _, rfl, by omega, fun i t' hi => ?_⟩
  match i, hi with
  | 0, hi =>
    simp at hi; subst hi
    exact ⟨_, at8_first (Bk.new w _ T), (h.wide hB |>.keep ((Below.refl _ w).alloc (Nat.le_refl _) _)).wide (by omega)⟩
  | k + 1, hi => simp at hi
theorem kv_two {B : Nat} {w : World} {t u : Nd} {c0 c1 c2 c3 c4 c5 c6 c7 d0 d1 d2 d3 d4 d5 d6 d7 : Value} (T : TypeId) (h : NV B w t (.agg #[c0, c1, c2, c3, c4, c5, c6, c7])) (h' : NV B w u (.agg #[d0, d1, d2, d3, d4, d5, d6, d7])) (hB : B ≤ w.heap.size) :
    KV (w.heap.size + 1) (w.alloc (.cells #[c0, c1, c2, c3, c4, c5, c6, c7, d0, d1, d2, d3, d4, d5, d6, d7] T)) (some ⟨w.heap.size, 0, none⟩) [t, u] := by
  have b := Bk.new w #[c0, c1, c2, c3, c4, c5, c6, c7, d0, d1, d2, d3, d4, d5, d6, d7] T
  refine .inr ⟨_, _, rfl, by omega, fun i t' hi => ?_⟩
  match i, hi with
  | 0, hi =>
    simp at hi; subst hi
    exact ⟨_, ⟨c0, c1, c2, c3, c4, c5, c6, c7, rfl, b.cell 0 rfl, b.cell 1 rfl, b.cell 2 rfl, b.cell 3 rfl, b.cell 4 rfl, b.cell 5 rfl, b.cell 6 rfl, b.cell 7 rfl⟩, (h.wide hB |>.keep ((Below.refl _ w).alloc (Nat.le_refl _) _)).wide (by omega)⟩
  | 1, hi =>
    simp at hi; subst hi
    exact ⟨_, ⟨d0, d1, d2, d3, d4, d5, d6, d7, rfl, b.cell 8 rfl, b.cell 9 rfl, b.cell 10 rfl, b.cell 11 rfl, b.cell 12 rfl, b.cell 13 rfl, b.cell 14 rfl, b.cell 15 rfl⟩, (h'.wide hB |>.keep ((Below.refl _ w).alloc (Nat.le_refl _) _)).wide (by omega)⟩
  | k + 2, hi => simp at hi
end Go.Proofs.Ytjblccgkocknbaa.nod
