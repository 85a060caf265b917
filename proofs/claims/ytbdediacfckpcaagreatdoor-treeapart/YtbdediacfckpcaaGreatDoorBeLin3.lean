/- Texts that the proof leans on, one behind the other. -/
import Derived.Test.YtbdediacfckpcaaGreatDoorBeLin2
import Derived.Deep.QuietTactic
import Derived.BigQuiet
import Derived.Laws.IdiomStrings
import Derived.Laws.BitsLemmas
import Derived.Laws.ResultCell
import Derived.WalkSmall
import Derived.Handy

section
/- What lines.Rows answers of any text: the fields of each line that says something. -/
set_option linter.unusedVariables false
set_option linter.unusedSimpArgs false
namespace Go.Proofs.YtbdediacfckpcaaGreatDoor.lin
open Go.RowKit Go.Shelf
attribute [local go_sem] Oper.semAt_some

theorem infoStrs : (Tryz.prog.info? 41).map (fun i => (i.zero, i.size, i.bytes)) = some (some (.slice none 0 0), 1, 24) := by kernel_rfl

def rowOf (x : ByteArray) : List (List ByteArray) := if (fieldsV x).length = 0 then [] else [fieldsV x]
def rowsOf (ls : List ByteArray) : List (List ByteArray) := ls.flatMap rowOf
theorem rowsOf_snoc (pre : List ByteArray) (x : ByteArray) : rowsOf (pre ++ [x]) = rowsOf pre ++ rowOf x := by simp [rowsOf]
theorem rowsOf_len (pre : List ByteArray) : (rowsOf pre).length ≤ pre.length := by
  induction pre with
  | nil => exact Nat.le_refl _
  | cons x pre ih =>
    have : (rowOf x).length ≤ 1 := by unfold rowOf; split <;> simp
    simp only [rowsOf, List.flatMap_cons, List.length_append, List.length_cons] at *
    omega

/-- v is a slice of rows of strings, a row of its own from base on. -/
def RowsAt (w : World) (base : Nat) (v : Value) (rs : List (List ByteArray)) : Prop :=
  ∃ L : List (Value × List ByteArray), L.map (·.2) = rs ∧ w.ownsRow base 41 1 v L.length (L.map (·.1)) ∧ ∀ q ∈ L, FAt w base q.1 q.2
theorem FAt.turnsT {D : Nat → Prop} {A B : World} {base : Nat} {v : Value} {fs : List ByteArray} (t : TypeId) (ht : t ≠ 9) (h : FAt A base v fs) (tt : Turns D A B) (hd : ∀ k, D k → k < base ∨ (∃ cur, A.heap[k]? = some (.cells cur t (0, 0)))) : FAt B base v fs := by
  obtain ⟨g, off, cap, cur, rfl, hg, hgg, hc⟩ := h
  refine ⟨g, off, cap, cur, rfl, hg, (tt.block g (Array.getElem?_eq_some_iff.1 hgg).1 (fun d => ?_)).trans hgg, hc⟩
  rcases hd g d with h | ⟨cur', h⟩
  · omega
  · rw [hgg] at h; cases h; exact ht rfl
theorem RowsAt.turns {D : Nat → Prop} {A B : World} {base : Nat} {v : Value} {rs : List (List ByteArray)} (h : RowsAt A base v rs) (t : Turns D A B) (hd : ∀ k, D k → k < base) : RowsAt B base v rs := by
  obtain ⟨L, hL, ho, hf⟩ := h
  exact ⟨L, hL, t.own ho (fun k e d => by have := (ho.lt k e).1; have := hd k d; omega), fun q hq => (hf q hq).turnsT 41 (by decide) t (fun k d => .inl (hd k d))⟩
theorem RowsAt.kept {A B : World} {base : Nat} {v : Value} {rs : List (List ByteArray)} (h : RowsAt A base v rs) (hb : Below A.heap.size A B) : RowsAt B base v rs := h.turns (D := fun _ => False) (.of_below hb) (fun _ h => h.elim)
theorem RowsAt.nil (w : World) (base : Nat) : RowsAt w base (.slice none 0 0) [] := ⟨[], rfl, World.ownsRow_nil _ _ _ _, fun _ h => by cases h⟩
theorem RowsAt.lower {w : World} {base base2 : Nat} {v : Value} {rs : List (List ByteArray)} (h : RowsAt w base2 v rs) (hb : base ≤ base2) : RowsAt w base v rs := by
  obtain ⟨L, hL, ho, hf⟩ := h
  exact ⟨L, hL, own_lower ho hb, fun q hq => (hf q hq).lower hb⟩
theorem RowsAt.push {A B : World} {base : Nat} {v v' : Value} {L : List (Value × List ByteArray)} {fv : Value} {fs : List ByteArray} (hf : ∀ q ∈ L, FAt A base q.1 q.2) (ho : A.ownsRow base 41 1 v L.length (L.map (·.1))) (hF : FAt A base fv fs) (hgrow : A.grownBy B v.ownBlock)
    (hown : B.ownsRow base 41 1 v' (L.length + 1) (L.map (·.1) ++ [fv])) : RowsAt B base v' (L.map (·.2) ++ [fs]) := by
  have t : Turns (fun k => ∃ cur, A.heap[k]? = some (.cells cur 41 (0, 0))) A B := .of_grown hgrow (own_typed ho)
  refine ⟨L ++ [(fv, fs)], by rw [List.map_append]; rfl, by rw [List.length_append, List.map_append]; exact hown, fun q hq => ?_⟩
  rcases List.mem_append.1 hq with hq | hq
  · exact (hf q hq).turnsT 41 (by decide) t (fun k d => .inr d)
  · obtain rfl := List.mem_singleton.1 hq
    exact hF.turnsT 41 (by decide) t (fun k d => .inr d)

/-- Between two rounds. -/
structure RI (w0 : World) (pre : List ByteArray) (W : World) : Prop where
  out : ∃ v, Boxed W w0.heap.size 119 v ∧ RowsAt W (w0.heap.size + 6) v (rowsOf pre)
  low : Below w0.heap.size w0 W
theorem RI.turns {w0 : World} {pre : List ByteArray} {A B : World} {D : Nat → Prop} (h : RI w0 pre A) (t : Turns D A B) (hd : ∀ k, D k → w0.heap.size + 1 ≤ k ∧ k < w0.heap.size + 6) : RI w0 pre B := by
  obtain ⟨v, hv, hr⟩ := h.out
  exact ⟨⟨v, t.boxed hv (fun d => by have := hd _ d; omega), hr.turns t (fun k d => (hd k d).2)⟩, h.low.trans (t.below h.low.size (fun k d => by have := hd k d; omega))⟩

theorem four (w : World) (A0 A1 A2 A3 : Obj) {W : World} (hW : W = (((w.alloc A0).alloc A1).alloc A2).alloc A3) :
    W.heap.size = w.heap.size + 4 ∧ Below w.heap.size w W ∧ W.heap[w.heap.size]? = some A0 ∧ W.heap[w.heap.size + 1]? = some A1 ∧ W.heap[w.heap.size + 2]? = some A2 ∧ W.heap[w.heap.size + 3]? = some A3 := by
  have old : ∀ (V : World) (o o' : Obj) (k : Nat), V.heap[k]? = some o → (V.alloc o').heap[k]? = some o := fun V o o' k h => (Below.heap_alloc V o' k (Array.getElem?_eq_some_iff.1 h).1).trans h
  have new : ∀ (V : World) (o : Obj) (k : Nat), V.heap.size = k → (V.alloc o).heap[k]? = some o := fun V o k h => by rw [← h]; exact World.alloc_heap_new V o
  subst hW
  refine ⟨by simp, ?_, ?_, ?_, ?_, ?_⟩
  · exact ((((Below.refl _ w).alloc (Nat.le_refl _) _).alloc (by simp) _).alloc (by simp; omega) _).alloc (by simp; omega) _
  · exact old _ _ _ _ (old _ _ _ _ (old _ _ _ _ (new _ _ _ rfl)))
  · exact old _ _ _ _ (old _ _ _ _ (new _ _ _ (by simp)))
  · exact old _ _ _ _ (new _ _ _ (by simp))
  · exact new _ _ _ (by simp)

set_option maxRecDepth 100000 in
set_option maxHeartbeats 2000000 in
theorem rows_any (s : ByteArray) (w : World) (hs : s.size ≤ 1073741824) :
    Calls Tryz.prog 174 #[.string s] w fun e w' => ∃ v, e = .returned v ∧ RowsAt w' w.heap.size v (rowsOf (cutV s 10)) ∧ Below w.heap.size w w' := by
  obtain ⟨i0, hi, hz0, hy1, hz2⟩ := info_parts infoStrs
  refine callsIn_wide (n := 9) |>.1 ?_
  refine callsIn_of_wp_marks Tryz.func174 rfl trivial ?_ rfl
  simp only [Tryz.ntmps174, List.size_toArray, List.length_cons, List.length_nil, Nat.reduceAdd, Nat.reduceSub, Array.replicate_succ, Array.replicate_zero, List.push_toArray, List.append_toArray, List.nil_append, List.cons_append]
  gi_wp2
  refine ⟨trivial, (callsIn_wide.2 (SplitSeq_any s _)).mono ?_⟩
  rintro e w' ⟨rfl, hw'⟩
  simp only [World.size_alloc, Nat.add_assoc, Nat.reduceAdd] at hw' ⊢
  gi_wp2
  obtain ⟨hsz, hB, b0, b1, b2, b3⟩ := four w _ _ _ _ hw'
  clear hw'
  refine range_own (c := w.heap.size + 1) (lo := w.heap.size + 1) rfl (enters_of Tryz.func190 (by kernel_rfl) rfl) (by omega) (by omega) (split_gives _ (w.heap.size + 1) s w' (by omega) ⟨b1, b2, b3⟩) (fun _ => rfl)
    (RI w) (fun _ _ => False) (fun _ A B h t => h.turns t (fun k d => by omega)) (fun _ A B h t => h)
    ⟨⟨_, b0, RowsAt.nil _ _⟩, hB⟩
    (fun x => { tmps := #[.string s, undef, .slice none 0 0, .pointer (some ⟨w.heap.size, 0, none⟩), .string x, undef, .string s,
      .func (.func 190) #[] #[.pointer (some ⟨w.heap.size + 2, 0, none⟩), .pointer (some ⟨w.heap.size + 1, 0, none⟩), .pointer (some ⟨w.heap.size + 3, 0, none⟩)], .string x, undef, undef, undef, undef, undef, undef, undef, undef, undef, undef], defers := [] }) ?assign ?body ?done ?stop
  case assign =>
    intro l x W K hK
    gi_wp2
    exact hK
  case body =>
    intro l pre x rest W hx hI hge
    have hxm : x ∈ cutV s 10 := by rw [hx]; simp
    have hxs : x.size ≤ s.size := cuts_size _ _ _ _ _ x hxm
    have hpl : pre.length ≤ s.size := by
      have h1 := cuts_len s 10 s.size 0 0
      have h2 : (cutV s 10).length = pre.length + (rest.length + 1) := by rw [hx]; simp
      unfold cutV at h2
      omega
    obtain ⟨v, hv, hrec⟩ := hI.out
    gi_wp2
    refine ⟨trivial, (CallsIn.inRound l (callsIn_wide.2 (fields_any x _ (by omega)))).mono ?_⟩
    rintro e W2 ⟨fv, rfl, hown, hbel⟩
    have hs2 := hbel.size
    have hv2 : Boxed W2 w.heap.size 119 v := (hbel.block _ hv.lt).trans hv
    have hrec2 := hrec.kept hbel
    have low2 := hI.low.trans (hbel.mono hI.low.size)
    have hlow := hI.low.size
    have tn : Turns (fun k => k = w.heap.size ∨ w.heap.size + 6 ≤ k) W W2 := .of_below hbel
    cases hfs : fieldsV x with
    | nil =>
      rw [hfs] at hown
      obtain ⟨sa, sc, rfl⟩ := own_slice hown
      have HG : Hid (Keep (w.heap.size + 1) (w'.heap.size + 2) W W2 ∧ RI w (pre ++ [x]) W2) := by
        refine ⟨tn.keep hge (fun k h => by omega), ⟨⟨v, hv2, ?_⟩, low2⟩⟩
        rw [rowsOf_snoc, show rowOf x = [] from by unfold rowOf; rw [hfs]; rfl, List.append_nil]; exact hrec2
      gi_wp2
      exact HG.out
    | cons f fs =>
      rw [hfs] at hown
      have hF : FAt W2 (w.heap.size + 6) fv (f :: fs) := by
        obtain ⟨fa, fc, rfl, hfrow⟩ := strRow hown
        obtain ⟨g2, rfl, hg1, hg2, hfc1, hfc2, ⟨cur, hcur, hcc⟩, hfcell⟩ := hfrow (by simp)
        exact ⟨g2, 0, fc, cur, rfl, by omega, hcur, fun j hj => by
          rw [Nat.zero_add, hcc j _ (List.getElem?_eq_getElem hj), List.getD_eq_getElem?_getD, List.getElem?_eq_getElem hj]; rfl⟩
      obtain ⟨L, hL, ho, hf⟩ := hrec2
      have hLl : L.length ≤ pre.length := by
        have h1 := rowsOf_len pre
        have h2 := congrArg List.length hL
        rw [List.length_map] at h2
        omega
      have HOW : Hid (∀ k, v.ownBlock = some k → w.heap.size + 6 ≤ k) := fun k e => (ho.lt k e).1
      have HF : Hid (FAt W2 (w.heap.size + 6) fv (f :: fs)) := hF
      have HFF : Hid (∀ q ∈ L, FAt W2 (w.heap.size + 6) q.1 q.2) := hf
      have HL : Hid (L.map (·.2) = rowsOf pre) := hL
      have HO : Hid (W2.ownsRow (w.heap.size + 6) 41 1 v L.length (L.map (·.1))) := ho
      have HRX : Hid (rowOf x = [f :: fs]) := by unfold Hid rowOf; rw [hfs]; rfl
      obtain ⟨va, vc, rfl⟩ := own_slice ho
      obtain ⟨fg, fo, fc, fcur, rfl, _⟩ := hF
      have cv := hv2.cell
      have BV : Hid (Boxed W2 w.heap.size 119 (.slice va L.length vc)) := hv2
      clear hown hL ho hf hv hrec hxm hx hbel hfs hI hv2
      have t0 : (0 : Int) < (fs.length : Int) + 1 := by omega
      gi_wp2_with (gi_at_builtin; refine wpListIn_append_own _ rfl _ _ 119 rfl (w.heap.size + 6) 41 i0 (.slice none 0 0) 1 24 Tryz.underlying119 hi hz0 hy1 hz2 rfl (by decide) _ _ _ rfl (HO.out.alloc _) ⟨W2.heap.size, 0, none⟩ 1 1 [.slice (some ⟨fg, fo, none⟩) (fs.length + 1) fc] rfl rfl (cell_one_new _ _ _) (by simp [Value.oneCell']) (by unfold maxLen; omega) (by omega) (by simp; omega) ?_)
      intro v' w4 hown4 hgrow _
      obtain ⟨va', vc', rfl⟩ := own_slice hown4
      have v4 : Boxed w4 w.heap.size 119 (.slice va L.length vc) := (BV.out.alloc _).kept hgrow (fun e => by have := HOW.out _ e.symm; omega)
      have HR : Hid (Keep (w.heap.size + 1) (w'.heap.size + 2) W (w4.setCell ⟨w.heap.size, 0, none⟩ (.slice va' (L.length + 1) vc')) ∧ RI w (pre ++ [x]) (w4.setCell ⟨w.heap.size, 0, none⟩ (.slice va' (L.length + 1) vc'))) := by
        have t5 : Turns (fun k => k = w.heap.size ∨ w.heap.size + 6 ≤ k) W (w4.setCell ⟨w.heap.size, 0, none⟩ (.slice va' (L.length + 1) vc')) :=
          ((tn.alloc _).trans (.of_grown hgrow (fun k e => .inr (HOW.out k e)))).set w.heap.size _ (.inl rfl)
        have hal : ∀ o, Below W2.heap.size W2 (W2.alloc o) := fun o => (Below.refl _ W2).alloc (Nat.le_refl _) _
        have hp : RowsAt w4 (w.heap.size + 6) (.slice va' (L.length + 1) vc') (rowsOf (pre ++ [x])) := by
          rw [rowsOf_snoc, HRX.out, ← HL.out]
          exact RowsAt.push (fun q hq => (HFF.out q hq).kept (hal _)) (HO.out.alloc _) (HF.out.kept (hal _)) hgrow hown4
        refine ⟨t5.keep hge (fun k h => by omega), ⟨⟨_, v4.set _, ?_⟩, ?_⟩⟩
        · exact hp.turns (Turns.set (D := fun k => k = w.heap.size) (Turns.refl _ w4) w.heap.size _ rfl) (fun k d => by omega)
        · have hl : Below w.heap.size w4 (w4.setCell ⟨w.heap.size, 0, none⟩ (.slice va' (L.length + 1) vc')) := (Turns.set (D := fun k => k = w.heap.size) (Turns.refl _ w4) w.heap.size _ rfl).below (by have := v4.lt; omega) (fun k d => by omega)
          have hl4 : Below w.heap.size w w4 := (low2.alloc low2.size _).grown hgrow (by have := low2.size; simp; omega) (fun k e => by have := HOW.out k e; omega)
          exact hl4.trans hl
      have c4 := v4.cell
      have f4 := v4.frozen
      clear hgrow hown4 v4 low2 tn
      gi_wp2
      exact HR.out
  case done =>
    intro W hI hd
    obtain ⟨v, hv, hr⟩ := hI.out
    obtain ⟨va, vc, rfl⟩ : ∃ va vc, v = .slice va (rowsOf (cutV s 10)).length vc := by
      obtain ⟨L, hL, ho, _⟩ := hr
      rw [← hL, List.length_map]
      exact own_slice ho
    have HT : Hid (RowsAt (W.putObj w'.heap.size (.deferred none)) w.heap.size (.slice va (rowsOf (cutV s 10)).length vc) (rowsOf (cutV s 10)) ∧ Below w.heap.size w (W.putObj w'.heap.size (.deferred none))) := by
      have tp : Turns (fun k => k = w'.heap.size) W (W.putObj w'.heap.size (.deferred none)) := Turns.put (D := fun k => k = w'.heap.size) (Turns.refl _ W) w'.heap.size _ rfl
      exact ⟨(hr.turns tp (fun k d => by omega)).lower (by omega), hI.low.trans (tp.below hI.low.size (fun k d => by omega))⟩
    have c3 := hv.cell
    clear hI hv hr
    gi_wp2
    refine ⟨by simp, .inl ⟨_, _, rfl, run_takeDeferred hd, ?_⟩⟩
    refine ⟨_, results_tmp (t := 2) rfl _ _ _, .slice va (rowsOf (cutV s 10)).length vc, rfl, HT.out⟩
  case stop =>
    intro pre W hI hd
    exact hI.elim
end Go.Proofs.YtbdediacfckpcaaGreatDoor.lin
end

section
/- What the document's Rows answers of any text: the same as lines.Rows. -/
set_option linter.unusedVariables false
set_option linter.unusedSimpArgs false
namespace Go.Proofs.YtbdediacfckpcaaGreatDoor.lin
open Go.RowKit

end Go.Proofs.YtbdediacfckpcaaGreatDoor.lin
end

section
/- A code point in digits: what the document's point answers. -/
set_option linter.unusedVariables false
set_option linter.unusedSimpArgs false
namespace Go.Proofs.YtbdediacfckpcaaGreatDoor.lin
open Go.RowKit

/-- A digit, great. -/
def dU (n : Nat) : UInt8 := if n < 10 then UInt8.ofNat (48 + n) else UInt8.ofNat (55 + n)
/-- The digits of a number, great; none of 0. -/
def hexU (n : Nat) : List UInt8 := if h : n = 0 then [] else hexU (n / 16) ++ [dU (n % 16)]
termination_by n
decreasing_by omega
/-- Four digits at least. -/
def pointL (n : Nat) : List UInt8 := List.replicate (4 - (hexU n).length) 48 ++ hexU n
/-- What is still to come of a number, ahead of k digits. -/
def ahead (r k : Nat) : List UInt8 := List.replicate (4 - k - (hexU r).length) 48 ++ hexU r
end Go.Proofs.YtbdediacfckpcaaGreatDoor.lin
end

section
/- What strconv.FormatInt answers of a number at base 16: its digits, small. -/
set_option linter.unusedVariables false
set_option linter.unusedSimpArgs false
namespace Go.Proofs.YtbdediacfckpcaaGreatDoor.lin
open Go.RowKit

/-- A digit, small. -/
def dL (n : Nat) : UInt8 := if n < 10 then UInt8.ofNat (48 + n) else UInt8.ofNat (87 + n)
def lowL (n : Nat) : List UInt8 := if h : n < 16 then [dL n] else lowL (n / 16) ++ [dL (n % 16)]
termination_by n
decreasing_by omega
theorem lowL_small (n : Nat) (h : n < 16) : lowL n = [dL n] := by rw [lowL, dif_pos h]
theorem lowL_step (n : Nat) (h : 16 ≤ n) : lowL n = lowL (n / 16) ++ [dL (n % 16)] := by rw [lowL, dif_neg (by omega)]
theorem lowL_len : ∀ k n, n < 16 ^ (k + 1) → (lowL n).length ≤ k + 1 := by
  intro k
  induction k with
  | zero => intro n h; rw [lowL_small n (by simpa using h)]; simp
  | succ k ih =>
    intro n h
    rcases Nat.lt_or_ge n 16 with hn | hn
    · rw [lowL_small n hn]; simp
    · rw [lowL_step n hn, List.length_append, List.length_singleton]
      have := ih (n / 16) (by rw [Nat.pow_succ] at h; omega)
      omega

theorem lowL_pos (n : Nat) : 1 ≤ (lowL n).length := by
  rcases Nat.lt_or_ge n 16 with hn | hn
  · rw [lowL_small n hn]; simp
  · rw [lowL_step n hn, List.length_append, List.length_singleton]; omega
theorem wraps_u64' (n : Int) (h₀ : 0 ≤ n) (h₁ : n < 2 ^ 63) : IntKind.u64.wrap n = n := by
  simp [IntKind.wrap, IntKind.bits, IntKind.signed]
  omega
theorem u64_and15 (x : Nat) (h : x ≤ 1152921504606846975) : bits .and .u64 (x : Int) 15 = ((x % 16 : Nat) : Int) := by
  have := bits_mask .u64 63 (by decide) wraps_u64' 4 (by decide) (x : Int) (by omega) (by omega)
  exact this
def digs : ByteArray := ⟨#[48, 49, 50, 51, 52, 53, 54, 55, 56, 57, 97, 98, 99, 100, 101, 102, 103, 104, 105, 106, 107, 108, 109, 110, 111, 112, 113, 114, 115, 116, 117, 118, 119, 120, 121, 122]⟩
theorem digs_fin : ∀ d : Fin 16, (digs[d.val]'(Nat.lt_of_lt_of_le d.isLt (by decide))).toNat = (dL d.val).toNat := by decide +kernel
theorem digs_get (d : Nat) (h : d < 16) (hk : d < digs.size) : (digs[d]'hk).toNat = (dL d).toNat := digs_fin ⟨d, h⟩
/-- The array's cells from m on are the digits D. -/
def Tail (w : World) (A m : Nat) (D : List UInt8) : Prop :=
  ∃ cur, w.heap[A]? = some (.cells cur 129 (0, 0)) ∧ cur.size = 65 ∧ m + D.length = 65 ∧ ∀ (j : Nat) (x : UInt8), D[j]? = some x → cur[m + j]? = some (.int .u8 x.toNat)
theorem Tail.put {w : World} {A m : Nat} {D : List UInt8} (h : Tail w A (m + 1) D) (x : UInt8) : Tail (w.setCell ⟨A, m, none⟩ (.int .u8 x.toNat)) A m (x :: D) := by
  obtain ⟨cur, h1, h2, h3, h4⟩ := h
  refine ⟨_, heap_setCell_same w A m cur _ _ h1, by rw [Array.size_setIfInBounds]; exact h2, by simp; omega, ?_⟩
  intro j y hy
  cases j with
  | zero =>
    simp at hy
    subst hy
    rw [Nat.add_zero, Array.getElem?_setIfInBounds_self_of_lt (by omega)]
  | succ j =>
    rw [Array.getElem?_setIfInBounds_ne (by omega), show m + (j + 1) = m + 1 + j from by omega]
    exact h4 j y (by simpa using hy)

set_option maxHeartbeats 1000000 in
theorem zeros_any (w : World) (h : w.cell? ⟨7, 15, none⟩ = some (.int .u8 4)) :
    Calls Tryz.prog 117 #[.int .u64 16] w fun e w' => e = .returned (.int .i64 4) ∧ w' = w := by
  have e1 : bits BinOp.and IntKind.u64 16 (IntKind.u64.wrap (-16)) = 16 := by kernel_rfl
  have e2 : IntKind.u64.wrap 4573923408821661840 = 4573923408821661840 := by kernel_rfl
  go_enter Tryz.func117, Tryz.ntmps117
  go_wp2
  go_ret
  exact ⟨rfl, rfl⟩

set_option maxHeartbeats 1000000 in
theorem power_any (w : World) : Calls Tryz.prog 116 #[.int .i64 16] w fun e w' => e = .returned (.bool true) ∧ w' = w := by
  have e1 : bits BinOp.and IntKind.i64 16 15 = 0 := by kernel_rfl
  go_enter Tryz.func116, Tryz.ntmps116
  go_wp2
  go_ret
  exact ⟨rfl, rfl⟩

set_option maxHeartbeats 1000000 in
set_option maxRecDepth 100000 in
theorem bits_any (n : Nat) (w : World) (hn : n ≤ 1152921504606846975) (h : w.cell? ⟨7, 15, none⟩ = some (.int .u8 4)) (hlt : 7 < w.heap.size) :
    Calls Tryz.prog 101 #[.slice none 0 0, .int .u64 n, .int .i64 16, .bool false, .bool false] w fun e w' => e = .returned (.tuple #[.slice none 0 0, .string (BA (lowL n))]) ∧ Below w.heap.size w w' := by
  go_enter Tryz.func101, Tryz.ntmps101
  have TZ : ∀ o, Calls Tryz.prog 117 #[.int .u64 16] (w.alloc o) fun e w' => e = .returned (.int .i64 4) ∧ w' = w.alloc o := fun o => zeros_any _ ((World.cell?_of_block (w := w) (a := ⟨7, 15, none⟩) (Below.heap_alloc _ _ _ hlt)).trans h)
  go_wp2_with fail
  refine (power_any _).mono ?_
  rintro e w' ⟨rfl, rfl⟩
  go_wp2_with fail
  refine (TZ _).mono ?_
  rintro e w' ⟨rfl, rfl⟩
  clear TZ
  have hT0 : Tail (w.alloc (.cells Tryz.zeroCells129 129)) w.heap.size 65 [] := ⟨_, World.alloc_heap_new w _, by kernel_rfl, rfl, fun j x hx => by simp at hx⟩
  have hB0 : Below w.heap.size w (w.alloc (.cells Tryz.zeroCells129 129)) := (Below.refl _ w).alloc (Nat.le_refl _) _
  have HLN : Hid ((lowL n).length ≤ 16) := lowL_len 15 n (by omega)
  have HT0 : Hid (Tail (w.alloc (.cells Tryz.zeroCells129 129)) w.heap.size 65 []) := hT0
  clear hT0 h hlt
  generalize w.alloc (.cells Tryz.zeroCells129 129) = W0 at *
  go_wp2
  go_loopg [1, 13] n (fun k v t wr => ∃ (u m : Nat) (D : List UInt8), v = .int .u64 u ∧ t = .int .i64 m ∧ k = u ∧ u ≤ n ∧ m ≤ 65 ∧ D.length ≤ 15 ∧ Hid (lowL u ++ D = lowL n) ∧ Hid (Tail wr w.heap.size m D) ∧ Below w.heap.size w wr)
  case atStart => exact ⟨n, 65, [], rfl, rfl, rfl, Nat.le_refl _, Nat.le_refl _, by simp, by rw [Hid, List.append_nil], HT0, hB0⟩
  case round =>
    clear HT0 hB0
    obtain ⟨u, m, D, rfl, rfl, hgk, hun, hm65, hD, HH, HT, hbel⟩ := hrel
    have HGK : Hid (gk = u) := hgk
    clear hgk
    obtain ⟨cur, hc1, hc2, hc3, _⟩ := HT.out
    obtain ⟨m', rfl⟩ : ∃ m', m = m' + 1 := ⟨m - 1, by omega⟩
    obtain ⟨cv, cm⟩ : ∃ cv, wr.cell? ⟨w.heap.size, m', none⟩ = some cv := ⟨cur[ m' ]'(by omega), by rw [cell_of_row wr w.heap.size m' cur _ _ hc1]; exact Array.getElem?_eq_getElem (by omega)⟩
    have fm := frozen_of_row wr w.heap.size m' cur _ hc1
    have hb15 := u64_and15 u (by omega)
    have hsz : digs.size = 36 := rfl
    by_cases hu : 16 ≤ u
    · have hd16 : u % 16 < 16 := Nat.mod_lt _ (by decide)
      have t1 : (16 : Int) ≤ (u : Int) := by omega
      have hdg := digs_get (u % 16) hd16 (by omega)
      unfold digs at hdg
      have R1 : Hid (Tail (wr.setCell ⟨w.heap.size, m', none⟩ (.int .u8 ((dL (u % 16)).toNat : Int))) w.heap.size m' (dL (u % 16) :: D)) := HT.out.put _
      have R2 : Hid (lowL (u / 16) ++ (dL (u % 16) :: D) = lowL n) := by
        rw [Hid, ← HH.out, lowL_step u hu, List.append_assoc]; rfl
      have R3 : Hid ((dL (u % 16) :: D).length ≤ 15) := by
        have h1 := congrArg List.length R2.out
        rw [List.length_append] at h1
        have h2 := lowL_pos (u / 16)
        have h3 := HLN.out
        rw [Hid]; omega
      have R4 := hbel.setCell (p := ⟨w.heap.size, m', none⟩) (Nat.le_refl _) (.int .u8 ((dL (u % 16)).toNat : Int))
      clear hc1 hc3 HT HH hbel
      go_wp2
      go_roundg (u / 16)
      case measure => have := HGK.out; omega
      case rel => exact ⟨u / 16, m', dL (u % 16) :: D, rfl, rfl, rfl, by omega, by omega, R3.out, R2, R1, R4⟩
    · have t1 : ¬ (16 : Int) ≤ (u : Int) := by omega
      have hdg := digs_get u (by omega) (by omega)
      unfold digs at hdg
      have R1 := HT.out.put (dL u)
      have HE : Hid (lowL n = dL u :: D) := by
        rw [Hid, ← HH.out, lowL_small u (by omega)]; rfl
      have R4 := hbel.setCell (p := ⟨w.heap.size, m', none⟩) (Nat.le_refl _) (.int .u8 ((dL u).toNat : Int))
      have hcv : (convert 48 9 (.slice (some ⟨w.heap.size, m', none⟩) (65 - m') (65 - m'))).run Tryz.prog (wr.setCell ⟨w.heap.size, m', none⟩ (.int .u8 ((dL u).toNat : Int))) = .ok (.string (BA (lowL n))) (wr.setCell ⟨w.heap.size, m', none⟩ (.int .u8 ((dL u).toNat : Int))) := by
        obtain ⟨cur2, k1, k2, k3, k4⟩ := R1
        have hk : (lowL n).length = 65 - m' := by rw [HE.out]; omega
        have hh := run_convert_bytes_back (P := Tryz.prog) (wr.setCell ⟨w.heap.size, m', none⟩ (.int .u8 ((dL u).toNat : Int))) 48 9 5 ⟨w.heap.size, m', none⟩ (65 - m') (lowL n) Tryz.underlying48 Tryz.underlying5 Tryz.underlying9 (fun j hj => by
          rw [Addr.add_lit, cell_of_row _ _ _ cur2 _ _ k1]
          exact k4 j _ (by rw [← HE.out]; exact List.getElem?_eq_getElem hj))
        rw [hk] at hh
        exact hh
      have hsl : (Instr.sliceAt 129 (.pointer (some ⟨w.heap.size, 0, none⟩)) (some (.int .i64 m')) none none).run Tryz.prog (wr.setCell ⟨w.heap.size, m', none⟩ (.int .u8 ((dL u).toNat : Int))) = .ok (.slice (some ⟨w.heap.size, m', none⟩) (65 - m') (65 - m')) (wr.setCell ⟨w.heap.size, m', none⟩ (.int .u8 ((dL u).toNat : Int))) := by
        generalize (wr.setCell ⟨w.heap.size, m', none⟩ (.int .u8 ((dL u).toNat : Int))) = W
        have hal : Tryz.prog.arrayLen 129 = 65 := by simp [Program.arrayLen, Tryz.underlying129]
        have hel : Tryz.prog.elem 129 = 5 := by simp [Program.elem, Tryz.underlying129]
        rw [run_sliceAt_array_l W 129 ⟨w.heap.size, 0, none⟩ (by rw [hal, hel]; exact Tryz.underlying129) .i64 (m' : Int) (by omega) (by rw [hal]; omega), hal, hel]
        have hz1 : (sizeOf 5).run Tryz.prog W = .ok 1 W := by
          obtain ⟨iu, hiu, _, hs1, _⟩ := info_parts (P := Tryz.prog) (e := 5) (z := .int .u8 0) (size := 1) (bytes := 1) (by kernel_rfl)
          simp [sizeOf, typeInfo, hiu, hs1]
        rw [hz1]
        show Result.ok (slicedAt ⟨w.heap.size, 0, none⟩ (m' : Int).toNat 65 65 1) W = _
        unfold slicedAt
        rw [if_neg (by omega), Addr.add_lit, Int.toNat_natCast, Nat.zero_add, Nat.mul_one]
      clear hc1 hc3 HT HH hbel R1
      go_wp2
      go_ret2
      exact ⟨rfl, R4⟩

theorem ifmt_any (n : Nat) (w : World) (hn : n ≤ 1152921504606846975) (h : w.cell? ⟨7, 15, none⟩ = some (.int .u8 4)) (hlt : 7 < w.heap.size) :
    Calls Tryz.prog 83 #[.int .i64 n, .int .i64 16] w fun e w' => e = .returned (.string (BA (lowL n))) ∧ Below w.heap.size w w' := by
  have BI := bits_any n w hn h hlt
  have t0 : ¬ (n : Int) < 0 := by omega
  clear h
  go_enter Tryz.func83, Tryz.ntmps83
  go_wp2_with fail
  refine BI.mono ?_
  rintro e w2 ⟨rfl, hb⟩
  go_wp2
  go_ret
  exact ⟨rfl, hb⟩
theorem fmt_any (n : Nat) (w : World) (hn : n ≤ 1152921504606846975) (h : w.cell? ⟨7, 15, none⟩ = some (.int .u8 4)) (hlt : 7 < w.heap.size) :
    Calls Tryz.prog 62 #[.int .i64 n, .int .i64 16] w fun e w' => e = .returned (.string (BA (lowL n))) ∧ Below w.heap.size w w' := by
  have BI := ifmt_any n w hn h hlt
  clear h
  go_enter Tryz.func62, Tryz.ntmps62
  go_wp2_with fail
  refine BI.mono ?_
  rintro e w2 ⟨rfl, hb⟩
  go_wp2
  go_ret
  exact ⟨rfl, hb⟩
end Go.Proofs.YtbdediacfckpcaaGreatDoor.lin
end
