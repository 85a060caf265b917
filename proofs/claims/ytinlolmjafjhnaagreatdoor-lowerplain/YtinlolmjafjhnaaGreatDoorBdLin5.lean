/- Texts that the proof leans on, one behind the other. -/
import Derived.Test.YtinlolmjafjhnaaGreatDoorBdLin4

section
/- What lines.Rows answers of any text: the fields of each line that says something. -/
set_option linter.unusedVariables false
set_option linter.unusedSimpArgs false
namespace Go.Proofs.YtinlolmjafjhnaaGreatDoor.lin
open Go.RowKit Go.Shelf
attribute [local go_sem] Oper.semAt_some

theorem infoStrs : (Tryz.prog.info? 33).map (fun i => (i.zero, i.size, i.bytes)) = some (some (.slice none 0 0), 1, 24) := by kernel_rfl

def rowOf (x : ByteArray) : List (List ByteArray) := if (fieldsV x).length = 0 then [] else [fieldsV x]
def rowsOf (ls : List ByteArray) : List (List ByteArray) := ls.flatMap rowOf
theorem rowsOf_snoc (pre : List ByteArray) (x : ByteArray) : rowsOf (pre ++ [x]) = rowsOf pre ++ rowOf x := by simp [rowsOf]
theorem rowsOf_len (pre : List ByteArray) : (rowsOf pre).length ≤ pre.length := by
 induction pre with
 | nil => exact Nat.le_refl _
 | cons x pre ih =>
  have : (rowOf x).length ≤ 1 := by unfold rowOf; split <;> simp
  simp only [rowsOf, List.flatMap_cons, List.length_append, List.length_cons] at *
  omega

/-- v is a slice of rows of strings, a row of its own from base on. -/
def RowsAt (w : World) (base : Nat) (v : Value) (rs : List (List ByteArray)) : Prop :=
 ∃ L : List (Value × List ByteArray), L.map (·.2) = rs ∧ w.ownsRow base 33 1 v L.length (L.map (·.1)) ∧ ∀ q ∈ L, FAt w base q.1 q.2
theorem FAt.turnsT {D : Nat → Prop} {A B : World} {base : Nat} {v : Value} {fs : List ByteArray} (t : TypeId) (ht : t ≠ 9) (h : FAt A base v fs) (tt : Turns D A B) (hd : ∀ k, D k → k < base ∨ (∃ cur, A.heap[k]? = some (.cells cur t (0, 0)))) : FAt B base v fs := by
 obtain ⟨g, off, cap, cur, rfl, hg, hgg, hc⟩ := h
 refine ⟨g, off, cap, cur, rfl, hg, (tt.block g (Array.getElem?_eq_some_iff.1 hgg).1 (fun d => ?_)).trans hgg, hc⟩
 rcases hd g d with h | ⟨cur', h⟩
 ·omega
 ·rw [hgg] at h; cases h; exact ht rfl
theorem RowsAt.turns {D : Nat → Prop} {A B : World} {base : Nat} {v : Value} {rs : List (List ByteArray)} (h : RowsAt A base v rs) (t : Turns D A B) (hd : ∀ k, D k → k < base) : RowsAt B base v rs := by
 obtain ⟨L, hL, ho, hf⟩ := h
 exact ⟨L, hL, t.own ho (fun k e d => by have := (ho.lt k e).1; have := hd k d; omega), fun q hq => (hf q hq).turnsT 33 (by decide) t (fun k d => .inl (hd k d))⟩
theorem RowsAt.kept {A B : World} {base : Nat} {v : Value} {rs : List (List ByteArray)} (h : RowsAt A base v rs) (hb : Below A.heap.size A B) : RowsAt B base v rs := h.turns (D := fun _ => False) (.of_below hb) (fun _ h => h.elim)
theorem RowsAt.nil (w : World) (base : Nat) : RowsAt w base (.slice none 0 0) [] := ⟨[], rfl, World.ownsRow_nil _ _ _ _, fun _ h => by cases h⟩
theorem RowsAt.lower {w : World} {base base2 : Nat} {v : Value} {rs : List (List ByteArray)} (h : RowsAt w base2 v rs) (hb : base ≤ base2) : RowsAt w base v rs := by
 obtain ⟨L, hL, ho, hf⟩ := h
 exact ⟨L, hL, own_lower ho hb, fun q hq => (hf q hq).lower hb⟩
theorem RowsAt.push {A B : World} {base : Nat} {v v' : Value} {L : List (Value × List ByteArray)} {fv : Value} {fs : List ByteArray} (hf : ∀ q ∈ L, FAt A base q.1 q.2) (ho : A.ownsRow base 33 1 v L.length (L.map (·.1))) (hF : FAt A base fv fs) (hgrow : A.grownBy B v.ownBlock)
  (hown : B.ownsRow base 33 1 v' (L.length + 1) (L.map (·.1) ++ [fv])) : RowsAt B base v' (L.map (·.2) ++ [fs]) := by
 have t : Turns (fun k => ∃ cur, A.heap[k]? = some (.cells cur 33 (0, 0))) A B := .of_grown hgrow (own_typed ho)
 refine ⟨L ++ [(fv, fs)], by rw [List.map_append]; rfl, by rw [List.length_append, List.map_append]; exact hown, fun q hq => ?_⟩
 rcases List.mem_append.1 hq with hq | hq
 ·exact (hf q hq).turnsT 33 (by decide) t (fun k d => .inr d)
 ·obtain rfl := List.mem_singleton.1 hq
  exact hF.turnsT 33 (by decide) t (fun k d => .inr d)

/-- Between two rounds. -/
structure RI (w0 : World) (pre : List ByteArray) (W : World) : Prop where
 out : ∃ v, Boxed W w0.heap.size 282 v ∧ RowsAt W (w0.heap.size + 6) v (rowsOf pre)
 low : Below w0.heap.size w0 W
theorem RI.turns {w0 : World} {pre : List ByteArray} {A B : World} {D : Nat → Prop} (h : RI w0 pre A) (t : Turns D A B) (hd : ∀ k, D k → w0.heap.size + 1 ≤ k ∧ k < w0.heap.size + 6) : RI w0 pre B := by
 obtain ⟨v, hv, hr⟩ := h.out
 exact ⟨⟨v, t.boxed hv (fun d => by have := hd _ d; omega), hr.turns t (fun k d => (hd k d).2)⟩, h.low.trans (t.below h.low.size (fun k d => by have := hd k d; omega))⟩

theorem four (w : World) (A0 A1 A2 A3 : Obj) {W : World} (hW : W = (((w.alloc A0).alloc A1).alloc A2).alloc A3) :
  W.heap.size = w.heap.size + 4 ∧ Below w.heap.size w W ∧ W.heap[w.heap.size]? = some A0 ∧ W.heap[w.heap.size + 1]? = some A1 ∧ W.heap[w.heap.size + 2]? = some A2 ∧ W.heap[w.heap.size + 3]? = some A3 := by
 have old : ∀ (V : World) (o o' : Obj) (k : Nat), V.heap[k]? = some o → (V.alloc o').heap[k]? = some o := fun V o o' k h => (Below.heap_alloc V o' k (Array.getElem?_eq_some_iff.1 h).1).trans h
 have new : ∀ (V : World) (o : Obj) (k : Nat), V.heap.size = k → (V.alloc o).heap[k]? = some o := fun V o k h => by rw [← h]; exact World.alloc_heap_new V o
 subst hW
 refine ⟨by simp, ?_, ?_, ?_, ?_, ?_⟩
 ·exact ((((Below.refl _ w).alloc (Nat.le_refl _) _).alloc (by simp) _).alloc (by simp; omega) _).alloc (by simp; omega) _
 ·exact old _ _ _ _ (old _ _ _ _ (old _ _ _ _ (new _ _ _ rfl)))
 ·exact old _ _ _ _ (old _ _ _ _ (new _ _ _ (by simp)))
 ·exact old _ _ _ _ (new _ _ _ (by simp))
 ·exact new _ _ _ (by simp)

set_option maxRecDepth 100000 in
set_option maxHeartbeats 2000000 in
theorem rows_any (s : ByteArray) (w : World) (hs : s.size ≤ 1073741824) :
  Calls Tryz.prog 226 #[.string s] w fun e w' => ∃ v, e = .returned v ∧ RowsAt w' w.heap.size v (rowsOf (cutV s 10)) ∧ Below w.heap.size w w' := by
 obtain ⟨i0, hi, hz0, hy1, hz2⟩ := info_parts infoStrs
 refine callsIn_wide (n := 9) |>.1 ?_
 refine callsIn_of_wp_marks Tryz.func226 rfl trivial ?_ rfl
 simp only [Tryz.ntmps226, List.size_toArray, List.length_cons, List.length_nil, Nat.reduceAdd, Nat.reduceSub, Array.replicate_succ, Array.replicate_zero, List.push_toArray, List.append_toArray, List.nil_append, List.cons_append]
 gi_wp2
 refine ⟨trivial, (callsIn_wide.2 (SplitSeq_any s _)).mono ?_⟩
 rintro e w' ⟨rfl, hw'⟩
 simp only [World.size_alloc, Nat.add_assoc, Nat.reduceAdd] at hw' ⊢
 gi_wp2
 obtain ⟨hsz, hB, b0, b1, b2, b3⟩ := four w _ _ _ _ hw'
 clear hw'
 refine range_own (c := w.heap.size + 1) (lo := w.heap.size + 1) rfl (enters_of Tryz.func157 (by kernel_rfl) rfl) (by omega) (by omega) (split_gives _ (w.heap.size + 1) s w' (by omega) ⟨b1, b2, b3⟩) (fun _ => rfl)
  (RI w) (fun _ _ => False) (fun _ A B h t => h.turns t (fun k d => by omega)) (fun _ A B h t => h)
  ⟨⟨_, b0, RowsAt.nil _ _⟩, hB⟩
  (fun x => { tmps := #[.string s, undef, .slice none 0 0, .pointer (some ⟨w.heap.size, 0, none⟩), .string x, undef, .string s,
   .func (.func 157) #[] #[.pointer (some ⟨w.heap.size + 2, 0, none⟩), .pointer (some ⟨w.heap.size + 1, 0, none⟩), .pointer (some ⟨w.heap.size + 3, 0, none⟩)], .string x, undef, undef, undef, undef, undef, undef, undef, undef, undef, undef], defers := [] }) ?assign ?body ?done ?stop
 case assign =>
  intro l x W K hK
  gi_wp2
  exact hK
 case body =>
  intro l pre x rest W hx hI hge
  have hxm : x ∈ cutV s 10 := by rw [hx]; simp
  have hxs : x.size ≤ s.size := cuts_size _ _ _ _ _ x hxm
  have hpl : pre.length ≤ s.size := by
   have h1 := cuts_len s 10 s.size 0 0
   have h2 : (cutV s 10).length = pre.length + (rest.length + 1) := by rw [hx]; simp
   unfold cutV at h2
   omega
  obtain ⟨v, hv, hrec⟩ := hI.out
  gi_wp2
  refine ⟨trivial, (CallsIn.inRound l (callsIn_wide.2 (fields_any x _ (by omega)))).mono ?_⟩
  rintro e W2 ⟨fv, rfl, hown, hbel⟩
  have hs2 := hbel.size
  have hv2 : Boxed W2 w.heap.size 282 v := (hbel.block _ hv.lt).trans hv
  have hrec2 := hrec.kept hbel
  have low2 := hI.low.trans (hbel.mono hI.low.size)
  have hlow := hI.low.size
  have tn : Turns (fun k => k = w.heap.size ∨ w.heap.size + 6 ≤ k) W W2 := .of_below hbel
  cases hfs : fieldsV x with
  | nil =>
   rw [hfs] at hown
   obtain ⟨sa, sc, rfl⟩ := own_slice hown
   have HG : Hid (Keep (w.heap.size + 1) (w'.heap.size + 2) W W2 ∧ RI w (pre ++ [x]) W2) := by
    refine ⟨tn.keep hge (fun k h => by omega), ⟨⟨v, hv2, ?_⟩, low2⟩⟩
    rw [rowsOf_snoc, show rowOf x = [] from by unfold rowOf; rw [hfs]; rfl, List.append_nil]; exact hrec2
   gi_wp2
   exact HG.out
  | cons f fs =>
   rw [hfs] at hown
   have hF : FAt W2 (w.heap.size + 6) fv (f :: fs) := by
    obtain ⟨fa, fc, rfl, hfrow⟩ := strRow hown
    obtain ⟨g2, rfl, hg1, hg2, hfc1, hfc2, ⟨cur, hcur, hcc⟩, hfcell⟩ := hfrow (by simp)
    exact ⟨g2, 0, fc, cur, rfl, by omega, hcur, fun j hj => by
     rw [Nat.zero_add, hcc j _ (List.getElem?_eq_getElem hj), List.getD_eq_getElem?_getD, List.getElem?_eq_getElem hj]; rfl⟩
   obtain ⟨L, hL, ho, hf⟩ := hrec2
   have hLl : L.length ≤ pre.length := by
    have h1 := rowsOf_len pre
    have h2 := congrArg List.length hL
    rw [List.length_map] at h2
    omega
   have HOW : Hid (∀ k, v.ownBlock = some k → w.heap.size + 6 ≤ k) := fun k e => (ho.lt k e).1
   have HF : Hid (FAt W2 (w.heap.size + 6) fv (f :: fs)) := hF
   have HFF : Hid (∀ q ∈ L, FAt W2 (w.heap.size + 6) q.1 q.2) := hf
   have HL : Hid (L.map (·.2) = rowsOf pre) := hL
   have HO : Hid (W2.ownsRow (w.heap.size + 6) 33 1 v L.length (L.map (·.1))) := ho
   have HRX : Hid (rowOf x = [f :: fs]) := by unfold Hid rowOf; rw [hfs]; rfl
   obtain ⟨va, vc, rfl⟩ := own_slice ho
   obtain ⟨fg, fo, fc, fcur, rfl, _⟩ := hF
   have cv := hv2.cell
   have BV : Hid (Boxed W2 w.heap.size 282 (.slice va L.length vc)) := hv2
   clear hown hL ho hf hv hrec hxm hx hbel hfs hI hv2
   have t0 : (0 : Int) < (fs.length : Int) + 1 := by omega
   gi_wp2_with (gi_at_builtin; refine wpListIn_append_own _ rfl _ _ 282 rfl (w.heap.size + 6) 33 i0 (.slice none 0 0) 1 24 Tryz.underlying282 hi hz0 hy1 hz2 rfl (by decide) _ _ _ rfl (HO.out.alloc _) ⟨W2.heap.size, 0, none⟩ 1 1 [.slice (some ⟨fg, fo, none⟩) (fs.length + 1) fc] rfl rfl (cell_one_new _ _ _) (by simp [Value.oneCell']) (by unfold maxLen; omega) (by omega) (by simp; omega) ?_)
   intro v' w4 hown4 hgrow _
   obtain ⟨va', vc', rfl⟩ := own_slice hown4
   have v4 : Boxed w4 w.heap.size 282 (.slice va L.length vc) := (BV.out.alloc _).kept hgrow (fun e => by have := HOW.out _ e.symm; omega)
   have HR : Hid (Keep (w.heap.size + 1) (w'.heap.size + 2) W (w4.setCell ⟨w.heap.size, 0, none⟩ (.slice va' (L.length + 1) vc')) ∧ RI w (pre ++ [x]) (w4.setCell ⟨w.heap.size, 0, none⟩ (.slice va' (L.length + 1) vc'))) := by
    have t5 : Turns (fun k => k = w.heap.size ∨ w.heap.size + 6 ≤ k) W (w4.setCell ⟨w.heap.size, 0, none⟩ (.slice va' (L.length + 1) vc')) :=
     ((tn.alloc _).trans (.of_grown hgrow (fun k e => .inr (HOW.out k e)))).set w.heap.size _ (.inl rfl)
    have hal : ∀ o, Below W2.heap.size W2 (W2.alloc o) := fun o => (Below.refl _ W2).alloc (Nat.le_refl _) _
    have hp : RowsAt w4 (w.heap.size + 6) (.slice va' (L.length + 1) vc') (rowsOf (pre ++ [x])) := by
     rw [rowsOf_snoc, HRX.out, ← HL.out]
     exact RowsAt.push (fun q hq => (HFF.out q hq).kept (hal _)) (HO.out.alloc _) (HF.out.kept (hal _)) hgrow hown4
    refine ⟨t5.keep hge (fun k h => by omega), ⟨⟨_, v4.set _, ?_⟩, ?_⟩⟩
    ·exact hp.turns (Turns.set (D := fun k => k = w.heap.size) (Turns.refl _ w4) w.heap.size _ rfl) (fun k d => by omega)
    ·have hl : Below w.heap.size w4 (w4.setCell ⟨w.heap.size, 0, none⟩ (.slice va' (L.length + 1) vc')) := (Turns.set (D := fun k => k = w.heap.size) (Turns.refl _ w4) w.heap.size _ rfl).below (by have := v4.lt; omega) (fun k d => by omega)
     have hl4 : Below w.heap.size w w4 := (low2.alloc low2.size _).grown hgrow (by have := low2.size; simp; omega) (fun k e => by have := HOW.out k e; omega)
     exact hl4.trans hl
   have c4 := v4.cell
   have f4 := v4.frozen
   clear hgrow hown4 v4 low2 tn
   gi_wp2
   exact HR.out
 case done =>
  intro W hI hd
  obtain ⟨v, hv, hr⟩ := hI.out
  obtain ⟨va, vc, rfl⟩ : ∃ va vc, v = .slice va (rowsOf (cutV s 10)).length vc := by
   obtain ⟨L, hL, ho, _⟩ := hr
   rw [← hL, List.length_map]
   exact own_slice ho
  have HT : Hid (RowsAt (W.putObj w'.heap.size (.deferred none)) w.heap.size (.slice va (rowsOf (cutV s 10)).length vc) (rowsOf (cutV s 10)) ∧ Below w.heap.size w (W.putObj w'.heap.size (.deferred none))) := by
   have tp : Turns (fun k => k = w'.heap.size) W (W.putObj w'.heap.size (.deferred none)) := Turns.put (D := fun k => k = w'.heap.size) (Turns.refl _ W) w'.heap.size _ rfl
   exact ⟨(hr.turns tp (fun k d => by omega)).lower (by omega), hI.low.trans (tp.below hI.low.size (fun k d => by omega))⟩
  have c3 := hv.cell
  clear hI hv hr
  gi_wp2
  refine ⟨by simp, .inl ⟨_, _, rfl, run_takeDeferred hd, ?_⟩⟩
  refine ⟨_, results_tmp (t := 2) rfl _ _ _, .slice va (rowsOf (cutV s 10)).length vc, rfl, HT.out⟩
 case stop =>
  intro pre W hI hd
  exact hI.elim
end Go.Proofs.YtinlolmjafjhnaaGreatDoor.lin
end

section
/- What the document's Rows answers of any text: the same as lines.Rows. -/
set_option linter.unusedVariables false
set_option linter.unusedSimpArgs false
namespace Go.Proofs.YtinlolmjafjhnaaGreatDoor.lin
open Go.RowKit

end Go.Proofs.YtinlolmjafjhnaaGreatDoor.lin
end
