/- A row of matches, of one span each, in the making. -/
import Derived.Test.YtpdkdfgcnhcmkaaEdtFound
set_option linter.unusedVariables false
set_option linter.unusedSimpArgs false
namespace Go.Proofs.Ytpdkdfgcnhcmkaa.edt
open Go.RowKit

theorem infoFound : (Try.prog.info? 37).map (fun i => (i.zero, i.size, i.bytes)) = some (some (.agg #[.slice none 0 0]), 1, 24) := by kernel_rfl
theorem row_ne {w : World} {B e size n : Nat} {v : Value} {xs : List Value} {b : Nat} {cs : Array Value} {e' : TypeId} {fz : Nat × Nat} (h : w.ownsRow B e size v n xs) (hb : w.heap[b]? = some (.cells cs e' fz)) (hne : e ≠ e') : v.ownBlock ≠ some b := by
  intro hv
  rcases h.2 with ⟨rfl, _⟩ | ⟨g, cap, cur, rfl, _, hg, _⟩
  · cases hv
  · cases hv
    rw [show (⟨g, 0, none⟩ : Addr).block = g from rfl] at hb
    rw [hg] at hb
    injection hb with hb
    injection hb with h1 h2
    exact hne h2
def fv1 (g : Nat) : Value := .slice (some ⟨g, 0, none⟩) 1 1
structure FO (w : World) (B : Nat) (v : Value) (gs : List Nat) (l : List Sp) : Prop where
  len : l.length = gs.length
  row : w.ownsRow B 37 1 v gs.length (gs.map fv1)
  sps : ∀ (i g : Nat), gs[i]? = some g → w.heap[g]? = some (.cells #[.int .i64 (l.getD i (0, 0)).1, .int .i64 (l.getD i (0, 0)).2] 34 (0, 0))
theorem FO.nil (w : World) (B : Nat) : FO w B (.slice none 0 0) [] [] := ⟨rfl, World.ownsRow_nil _ _ _ _, fun i g h => (by simp at h)⟩
theorem FO.below {w w' : World} {B : Nat} {v : Value} {gs : List Nat} {l : List Sp} (h : FO w B v gs l) (hb : Below w.heap.size w w') : FO w' B v gs l :=
  ⟨h.len, own_below h.row hb, fun i g hi => (hb.block g (Array.getElem?_eq_some_iff.1 (h.sps i g hi)).1).trans (h.sps i g hi)⟩
theorem FO.alloc {w : World} {B : Nat} {v : Value} {gs : List Nat} {l : List Sp} (h : FO w B v gs l) (o : Obj) : FO (w.alloc o) B v gs l := h.below ((Below.refl _ _).alloc (Nat.le_refl _) o)
theorem FO.snoc {w w' : World} {B : Nat} {v v' : Value} {gs : List Nat} {l : List Sp} (h : FO w B v gs l) (g : Nat) (x y : Int) (hg : w.heap[g]? = some (.cells #[.int .i64 x, .int .i64 y] 34 (0, 0)))
    (hrow : w'.ownsRow B 37 1 v' (gs.length + 1) (gs.map fv1 ++ [.slice (some ⟨g, 0, none⟩) 1 1])) (hgr : w.grownBy w' v.ownBlock) : FO w' B v' (gs ++ [g]) (l ++ [(x, y)]) := by
  have hl := h.len
  have keep : ∀ {k : Nat} {cs : Array Value}, w.heap[k]? = some (.cells cs 34 (0, 0)) → w'.heap[k]? = some (.cells cs 34 (0, 0)) := fun hk => (hgr.block _ (Array.getElem?_eq_some_iff.1 hk).1 (fun e => row_ne h.row hk (by decide) e.symm)).trans hk
  refine ⟨by rw [List.length_append, List.length_append, hl]; rfl, by rw [List.length_append, List.map_append]; exact hrow, fun i k hi => ?_⟩
  rcases Nat.lt_or_ge i gs.length with hlt | hge
  · rw [List.getElem?_append_left hlt] at hi
    have := keep (h.sps i k hi)
    rw [List.getD_eq_getElem?_getD, List.getElem?_append_left (by omega), ← List.getD_eq_getElem?_getD]
    exact this
  · have h2 := (List.getElem?_eq_some_iff.1 hi).1
    rw [List.length_append] at h2
    simp only [List.length_cons, List.length_nil] at h2
    obtain rfl : i = gs.length := by omega
    rw [List.getElem?_append_right (Nat.le_refl _), Nat.sub_self] at hi
    obtain rfl : g = k := by simpa using hi
    rw [List.getD_eq_getElem?_getD, ← hl, List.getElem?_append_right (Nat.le_refl _), Nat.sub_self]
    exact keep hg
theorem FO.fs {w : World} {B : Nat} {v : Value} {gs : List Nat} {l : List Sp} (h : FO w B v gs l) : ∃ ao cap, v = .slice ao l.length cap ∧ FS w ao l.length cap l := by
  have hr := h.row
  rw [← h.len] at hr
  rcases hr.2 with ⟨rfl, h0⟩ | ⟨g, cap, cur, rfl, _, hgg, hc, hm, _⟩
  · exact ⟨none, 0, by rw [h0], ⟨rfl, by omega, by omega, .inl h0⟩⟩
  · unfold maxLen at hm
    refine ⟨some ⟨g, 0, none⟩, cap, rfl, ⟨rfl, hc, by omega, .inr ⟨g, 0, rfl, fun i hi => ?_⟩⟩⟩
    have hig : i < gs.length := by rw [← h.len]; exact hi
    have hs := h.sps i _ (List.getElem?_eq_getElem hig)
    refine ⟨gs[i], ?_, ?_, ?_⟩
    · rw [Nat.zero_add, hr.cellAt i (by omega), List.getElem?_map, List.getElem?_eq_getElem hig]; rfl
    · simp [World.cell?, hs]
    · simp [World.cell?, hs]
end Go.Proofs.Ytpdkdfgcnhcmkaa.edt
