/- Texts that the proof leans on, one behind the other. -/
import Derived.RangeFuncNested
import Derived.RangeFuncBound
import Derived.RangeFuncLeaves
import Derived.Test.YtlidgjkipbijlaaGreatDoorProg
import Derived.WalkKit
import Derived.WalkSpells
import Derived.WalkLawsBesides
import Derived.Laws.RangeAny
import Derived.Laws.BitsLemmas
import Derived.Lib.IndexLaws
import Derived.Shelf.Strings.SlTrimAscii
import Derived.Shelf.Strings.Trim
import Derived.Shelf.Small.Utf8
import Derived.Shelf.Small.Strs
import Derived.Shelf.Strconv.Atoi
import Derived.Shelf.Strconv.Itoa0
import Derived.Shelf.Strconv.AtoiErrFast
import Derived.Shelf.Strconv.ParseIntEmpty
import Derived.Shelf.Strconv.AtoiFail
import Derived.Shelf.LaysM
import Derived.Shelf.Strconv.Clone
import Derived.Shelf.Strconv.SyntaxError
import Derived.Shelf.LaysC
import Derived.Shelf.Strconv.ToError
import Derived.Shelf.Strconv.Lower
import Derived.Shelf.Strconv.ParseUint10
import Derived.Shelf.Strconv.ParseUint10Empty
import Derived.Shelf.Strconv.ParseUint10Any
import Derived.Shelf.Strconv.ParseInt10
import Derived.Shelf.Strconv.AtoiLong
import Derived.Shelf.Strconv.AtoiInnerAll
import Derived.Shelf.Strconv.RangeError
import Derived.Shelf.Strconv.ToErrorRange
import Derived.Shelf.Strconv.AtoiAll
import Derived.Shelf.Strings.Search1
import Derived.Shelf.Strings.Search2
import Derived.Shelf.Strings.Search3
import Derived.Shelf.Strings.Cut
import Derived.Shelf.Strings.Shaped
import Derived.Shelf.Unicode.Latin
import Derived.Shelf.Strings.Runes
import Derived.Shelf.Strings.AsciiSet
import Derived.Shelf.Unicode.DecodeSlow
import Derived.Shelf.Unicode.Is16White
import Derived.Shelf.Unicode.IsSpaceAny
import Derived.Shelf.Unicode.Is16Any
import Derived.Shelf.Unicode.Is32Any
import Derived.Shelf.Unicode.ExclAny
import Derived.Shelf.Slices.Equal
import Derived.Shelf.Slices.Clone
import Derived.Shelf.Slices.SearchI
import Derived.Shelf.Slices.Empties2
import Derived.Shelf.SlicesE.Clone
import Derived.Shelf.SlicesG.Cmp
import Derived.Lib.SlTrimSet

section
/- A range over an iterator that keeps state of its own in a cell: a law for such a statement, at the wide fence. -/
namespace Go.Proofs.YtlidgjkipbijlaaGreatDoor.lin
open Go.RowKit

/-- Of the blocks that lay in A, those alone may have turned of which D speaks. -/
structure Turns (D : Nat → Prop) (A B : World) : Prop where
  os : B.os = A.os
  tape : B.tape = A.tape
  output : B.output = A.output
  size : A.heap.size ≤ B.heap.size
  block : ∀ k, k < A.heap.size → ¬ D k → B.heap[k]? = A.heap[k]?

theorem Turns.refl (D : Nat → Prop) (A : World) : Turns D A A := ⟨rfl, rfl, rfl, Nat.le_refl _, fun _ _ _ => rfl⟩
theorem Turns.trans {D : Nat → Prop} {A B C : World} (h : Turns D A B) (k : Turns D B C) : Turns D A C :=
  ⟨k.os.trans h.os, k.tape.trans h.tape, k.output.trans h.output, Nat.le_trans h.size k.size, fun i hi hd => (k.block i (Nat.lt_of_lt_of_le hi h.size) hd).trans (h.block i hi hd)⟩
theorem Turns.mono {D E : Nat → Prop} {A B : World} (h : Turns D A B) (hd : ∀ k, D k → E k) : Turns E A B := ⟨h.os, h.tape, h.output, h.size, fun k hk he => h.block k hk (fun d => he (hd k d))⟩
theorem Turns.of_grown {D : Nat → Prop} {A B : World} {row : Option Nat} (h : A.grownBy B row) (hr : ∀ k, row = some k → D k) : Turns D A B :=
  ⟨h.os, h.tape, h.output, h.size, fun k hk hd => h.block k hk (fun e => hd (hr k e.symm))⟩
theorem Turns.of_below {D : Nat → Prop} {A B : World} (h : Below A.heap.size A B) : Turns D A B := ⟨h.os, h.tape, h.output, h.size, fun k hk _ => h.block k hk⟩
theorem Turns.alloc {D : Nat → Prop} {A B : World} (h : Turns D A B) (o : Obj) : Turns D A (B.alloc o) := h.trans (.of_grown (World.grownBy_alloc B o none) (fun _ e => by cases e))
theorem Turns.drew {D : Nat → Prop} {A B : World} (h : Turns D A B) : Turns D A B.drew := ⟨h.os, h.tape, h.output, h.size, h.block⟩
theorem Turns.put {D : Nat → Prop} {A B : World} (h : Turns D A B) (k : Nat) (o : Obj) (hd : D k) : Turns D A (B.putObj k o) := h.trans (.of_grown (grownBy_putObj' B k o) (fun _ e => by cases e; exact hd))
theorem Turns.set {D : Nat → Prop} {A B : World} (h : Turns D A B) (k : Nat) (v : Value) (hd : D k) : Turns D A (B.setCell ⟨k, 0, none⟩ v) := h.trans (.of_grown (grownBy_setCell' B k v) (fun _ e => by cases e; exact hd))
theorem Turns.boxed {D : Nat → Prop} {A B : World} (h : Turns D A B) {k : Nat} {t : TypeId} {v : Value} (hb : Boxed A k t v) (hd : ¬ D k) : Boxed B k t v := (h.block k hb.lt hd).trans hb
theorem Turns.below {D : Nat → Prop} {A B : World} (h : Turns D A B) {n : Nat} (hn : n ≤ A.heap.size) (hd : ∀ k, D k → n ≤ k) : Below n A B := ⟨h.os, h.tape, h.output, h.size, fun k hk => h.block k (by omega) (fun d => by have := hd k d; omega)⟩
theorem Turns.own {D : Nat → Prop} {A B : World} (h : Turns D A B) {base e size n : Nat} {v : Value} {xs : List Value} (ho : A.ownsRow base e size v n xs) (hd : ∀ k, v.ownBlock = some k → ¬ D k) : B.ownsRow base e size v n xs := by
  refine ⟨ho.1, ?_⟩
  rcases ho.2 with hn | ⟨g, cap, cur, rfl, hg, hgg, rest⟩
  · exact .inl hn
  · exact .inr ⟨g, cap, cur, rfl, hg, (h.block g (Array.getElem?_eq_some_iff.1 hgg).1 (hd g rfl)).trans hgg, rest⟩

/-- The blocks from lo to hi lie as they lay. -/
def Keep (lo hi : Nat) (A B : World) : Prop := ∀ k, lo ≤ k → k < hi → B.heap[k]? = A.heap[k]?
theorem Turns.keep {D : Nat → Prop} {A B : World} (h : Turns D A B) {lo hi : Nat} (hh : hi ≤ A.heap.size) (hd : ∀ k, D k → k < lo ∨ hi ≤ k) : Keep lo hi A B :=
  fun k h1 h2 => h.block k (by omega) (fun d => by have := hd k d; omega)

/-- The contract of an iterator whose elements are xs, and which stores into block c alone; it wants the blocks from lo to hi as they lay. -/
def Gives {α : Type} (n : Nat) (P : Program) (g : Nat) (lb : Array Value) (encs : α → Array Value) (xs : List α) (c lo hi : Nat) (w : World) : Prop :=
  ∀ (l : Nat) (J Jx : List α → World → Prop) (W : World), Below w.heap.size w W → (∀ s A B, J s A → A.grownBy B (some c) → J s B) →
    (∀ pre x rest W1, xs = pre ++ x :: rest → J pre W1 → YieldAt Fence.wide (n - 1) P l (encs x) W1 fun e W' =>
      (e = .returned (.bool true) ∧ J (pre ++ [x]) W' ∧ Keep lo hi W1 W') ∨ (e = .returned (.bool false) ∧ Jx (pre ++ [x]) W')) →
    J [] W →
    CallsIn Fence.wide n P g (#[.func (.yield l) #[] #[]] ++ lb) W fun e W' => (∃ v, e = .returned v) ∧ (J xs W' ∨ ∃ pre, Jx pre W')

/-- How a round's body may be left: it goes on, or it returns. -/
def roundEnd {α : Type} (lo hi : Nat) (I Ix : List α → World → Prop) (xs : List α) (W : World) : Exit → Act → World → Prop
  | .normal, _, W' => Keep lo hi W W' ∧ I xs W'
  | .ret, _, W' => Keep lo hi W W' ∧ Ix xs W'
  | _, _, _ => False

theorem range_own {α : Type} {n : Nat} {P : Program} {g : Operand} {ps : Array Tmp} {assign body : Code} {Q : Exit → Act → World → Prop} {a : Act} {w : World} {gf : Nat} {lb : Array Value}
    (hg : a.eval g = .func (.func gf) #[] lb) (eg : ∀ args w, (callFunc gf args).run P w = .ok (.enter gf args) w)
    {encs : α → Array Value} {xs : List α} {c lo : Nat} (hc : c < w.heap.size) (hlo : lo ≤ w.heap.size) (hseq : Gives (n - 1) P gf lb encs xs c lo w.heap.size w) (hps : ∀ x, (encs x).size = ps.size)
    (I Ix : List α → World → Prop) (hI : ∀ s A B, I s A → Turns (fun k => k = c ∨ k = w.heap.size ∨ k = w.heap.size + 1) A B → I s B) (hIx : ∀ s A B, Ix s A → Turns (fun k => k = c ∨ k = w.heap.size ∨ k = w.heap.size + 1) A B → Ix s B)
    (h0 : I [] w) (a₁ : α → Act)
    (hassign : ∀ (l : Nat) (x : α) (W : World) (K : Act → World → Prop), K (a₁ x) W →
      assign.wpIn (Fence.wide.inRound l) (n - 1 - 1) P (Exit.then K (fun _ _ _ => False)) { tmps := (ps.zip (encs x)).foldl (fun t (p, v) => t.setIfInBounds p v) a.tmps, defers := [] } W)
    (hbody : ∀ (l : Nat) (pre : List α) (x : α) (rest : List α) (W : World), xs = pre ++ x :: rest → I pre W → w.heap.size + 2 ≤ W.heap.size → body.wpIn (Fence.wide.inRound l) (n - 1 - 1) P (roundEnd lo (w.heap.size + 2) I Ix (pre ++ [x]) W) (a₁ x) W)
    (hdone : ∀ (W : World), I xs W → W.heap[w.heap.size]? = some (.deferred (some [])) → Q .normal { a with defers := { target := .collected w.heap.size, args := #[] } :: a.defers } W)
    (hstop : ∀ (pre : List α) (W : World), Ix pre W → W.heap[w.heap.size]? = some (.deferred (some [])) → Code.ret.wpIn Fence.wide n P Q { a with defers := { target := .collected w.heap.size, args := #[] } :: a.defers } W) :
    (Code.rangeFunc g ps assign body).wpIn Fence.wide n P Q a w := by
  refine wpIn_rangeFunc fun fn hfn => ?_
  let rec_ : LoopState → Option Code → Loop := fun st pe => { state := st, pending := pe, fn, tmps := a.tmps, params := ps, assign, body, defers := w.heap.size }
  have hIr : ∀ s A (o : Obj), I s A → I s (A.putObj (w.heap.size + 1) o) := fun s A o hs => hI s A _ hs ((Turns.refl _ A).put _ o (.inr (.inr rfl)))
  have hIxr : ∀ s A (o : Obj), Ix s A → Ix s (A.putObj (w.heap.size + 1) o) := fun s A o hs => hIx s A _ hs ((Turns.refl _ A).put _ o (.inr (.inr rfl)))
  refine ⟨w.heap.size + 1, [{ target := .collected w.heap.size, args := #[] }], (w.alloc (.deferred (some []))).alloc (.loop (rec_ .ready none)), { target := .fn (.func gf) lb, args := #[.func (.yield (w.heap.size + 1)) #[] #[]] }, (w.alloc (.deferred (some []))).alloc (.loop (rec_ .ready none)), gf,
    #[.func (.yield (w.heap.size + 1)) #[] #[]] ++ lb, (w.alloc (.deferred (some []))).alloc (.loop (rec_ .ready none)), run_enterLoop_outer _ _ _ _ _, ?_, fun _ _ => trivial, ?_, fun h => by simp [Fence.wide] at h, ?_⟩
  · simp only [resolve, hg]
    simp [go_sem]
  · simp [invoke, go_sem, eg]
  have hK1 : ((w.alloc (.deferred (some []))).alloc (.loop (rec_ .ready none))).heap[w.heap.size]? = some (.deferred (some [])) := (Below.heap_alloc _ _ _ (by simp)).trans (World.alloc_heap_new w _)
  have hL1 : ((w.alloc (.deferred (some []))).alloc (.loop (rec_ .ready none))).heap[w.heap.size + 1]? = some (.loop (rec_ .ready none)) := by
    have := World.alloc_heap_new (w.alloc (.deferred (some []))) (.loop (rec_ .ready none)); rwa [World.size_alloc] at this
  have hI1 : I [] ((w.alloc (.deferred (some []))).alloc (.loop (rec_ .ready none))) := hI _ _ _ h0 (((Turns.refl _ w).alloc _).alloc _)
  have hb1 : Below w.heap.size w ((w.alloc (.deferred (some []))).alloc (.loop (rec_ .ready none))) := ((Below.refl _ w).alloc (Nat.le_refl _) _).alloc (by simp) _
  have kept : ∀ (A B : World) (k : Nat) (o : Obj), A.grownBy B (some c) → w.heap.size ≤ k → A.heap[k]? = some o → B.heap[k]? = some o := fun A B k o hgr hk ho =>
    (hgr.block k (Array.getElem?_eq_some_iff.1 ho).1 (fun e => by cases e; omega)).trans ho
  refine (hseq (w.heap.size + 1)
    (fun pre W => I pre W ∧ W.heap[w.heap.size + 1]? = some (.loop (rec_ .ready none)) ∧ W.heap[w.heap.size]? = some (.deferred (some [])))
    (fun pre W => Ix pre W ∧ W.heap[w.heap.size + 1]? = some (.loop (rec_ .done (some .ret))) ∧ W.heap[w.heap.size]? = some (.deferred (some [])))
    _ hb1 (fun s A B hs hgr => ⟨hI s A B hs.1 (.of_grown hgr (fun k e => by cases e; exact .inl rfl)), kept A B _ _ hgr (by omega) hs.2.1, kept A B _ _ hgr (Nat.le_refl _) hs.2.2⟩) ?_ ⟨hI1, hL1, hK1⟩).mono ?_
  · rintro pre x rest W hx ⟨hi, hl, hk⟩
    have hlt : w.heap.size + 1 < W.heap.size := (Array.getElem?_eq_some_iff.1 hl).1
    refine ⟨fn, _, assign, body, run_yield (P := P) (args := encs x) hl (hps x), roundIn_of_wpIn hfn (hassign _ x W _ ?_)⟩
    refine ⟨_, run_beginRound hl rfl, ?_⟩
    have hl2 : (W.putObj (w.heap.size + 1) (.loop { rec_ .ready none with state := .busy })).heap[w.heap.size + 1]? = some (.loop { rec_ .ready none with state := .busy }) := World.putObj_heap_same hlt
    have hk2 : (W.putObj (w.heap.size + 1) (.loop { rec_ .ready none with state := .busy })).heap[w.heap.size]? = some (.deferred (some [])) := (World.putObj_heap_other (by omega)).trans hk
    refine wpIn_mono (hbody _ pre x rest _ hx (hIr _ _ _ hi) (by simp; omega)) ?_
    rintro e a3 W3 hp
    cases e with
    | normal =>
      obtain ⟨hk3, hi3⟩ := hp
      have hl3 := (hk3 (w.heap.size + 1) (by omega) (by omega)).trans hl2
      refine ⟨_, _, run_endRound (P := P) none hl3, .inl ⟨rfl, ⟨hIr _ _ _ hi3, World.putObj_heap_same (Array.getElem?_eq_some_iff.1 hl3).1, (World.putObj_heap_other (by omega)).trans ((hk3 w.heap.size hlo (by omega)).trans hk2)⟩, ?_⟩⟩
      intro k h1 h2
      rw [World.putObj_heap_other (by omega), hk3 k h1 (by omega), World.putObj_heap_other (by omega)]
    | ret =>
      obtain ⟨hk3, hi3⟩ := hp
      have hl3 := (hk3 (w.heap.size + 1) (by omega) (by omega)).trans hl2
      exact ⟨_, _, run_endRound (P := P) (some .ret) hl3, .inr ⟨rfl, hIxr _ _ _ hi3, World.putObj_heap_same (Array.getElem?_eq_some_iff.1 hl3).1, (World.putObj_heap_other (by omega)).trans ((hk3 w.heap.size hlo (by omega)).trans hk2)⟩⟩
    | exit id => exact hp.elim
    | goto t => exact hp.elim
    | panic ch => exact hp.elim
    | outgrown => exact hp.elim
  · rintro e W2 ⟨⟨v, rfl⟩, (⟨hi, hl, hk⟩ | ⟨pre, hi, hl, hk⟩)⟩
    · exact ⟨none, _, run_endLoop (P := P) hl (by simp [rec_]), hdone _ (hIr _ _ _ hi) ((World.putObj_heap_other (by omega)).trans hk)⟩
    · exact ⟨some .ret, _, run_endLoop (P := P) hl (by simp [rec_]), hstop pre _ (hIxr _ _ _ hi) ((World.putObj_heap_other (by omega)).trans hk)⟩
end Go.Proofs.YtlidgjkipbijlaaGreatDoor.lin
end

section
/- What lines.digitOf, lines.Hex and the document's Hex answer of any string: the same number, or none. -/
set_option linter.unusedVariables false
set_option linter.unusedSimpArgs false
namespace Go.Proofs.YtlidgjkipbijlaaGreatDoor.lin
open Go.RowKit

theorem ret_ib {k : IntKind} {a b : Int} {c d : Bool} (h : a = b) (h' : c = d) : Ending.returned (.tuple #[.int k a, .bool c]) = .returned (.tuple #[.int k b, .bool d]) := by rw [h, h']

/-- A digit's value; whether a code point is a digit. -/
def dv (c : Int) : Int := if 48 ≤ c ∧ c ≤ 57 then c - 48 else if 65 ≤ c ∧ c ≤ 70 then c - 55 else if 97 ≤ c ∧ c ≤ 102 then c - 87 else 0
def dok (c : Int) : Bool := decide (48 ≤ c ∧ c ≤ 57) || decide (65 ≤ c ∧ c ≤ 70) || decide (97 ≤ c ∧ c ≤ 102)
theorem dv_le (c : Int) : 0 ≤ dv c ∧ dv c ≤ 15 := by unfold dv; (repeat' split) <;> omega
theorem dok_iff (c : Int) : dok c = true ↔ (48 ≤ c ∧ c ≤ 57) ∨ (65 ≤ c ∧ c ≤ 70) ∨ (97 ≤ c ∧ c ≤ 102) := by unfold dok; simp [or_assoc]

theorem digit_any (c : Int) (w : World) (h0 : 0 ≤ c) (h1 : c ≤ 2147483647) :
    Calls Tryz.prog 128 #[.int .i32 c] w fun e w' => e = .returned (.tuple #[.int .i64 (dv c), .bool (dok c)]) ∧ w' = w := by
  go_enter Tryz.func128, Tryz.ntmps128
  go_wp2
  all_goals go_ret2
  all_goals exact ⟨ret_ib (by unfold dv; (repeat' split) <;> omega) (by unfold dok; simp; omega), rfl⟩

/-- The byte at a place of a string. -/
def at8 (s : ByteArray) (p : Nat) : Int := if h : p < s.size then ((s[p]'h).toNat : Int) else 0
theorem at8_eq (s : ByteArray) (p : Nat) (h : p < s.size) : at8 s p = ((s[p]'h).toNat : Int) := by simp [at8, h]
theorem at8_le (s : ByteArray) (p : Nat) : 0 ≤ at8 s p ∧ at8 s p ≤ 255 := by
  unfold at8; split
  · rename_i h
    have := (s[p]'h).toNat_lt
    omega
  · omega

/-- The number of so many digits from a place on, behind a number. -/
def hx (s : ByteArray) : Nat → Nat → Int → Option Int
  | 0, _, v => some v
  | k + 1, p, v => if dok (at8 s p) then hx s k (p + 1) (v * 16 + dv (at8 s p)) else none
/-- The code point of a string of four to six digits. -/
def hexV (s : ByteArray) : Option Int := if s.size < 4 ∨ 6 < s.size then none else (hx s s.size 0 0).bind fun n => if 1114111 < n then none else some n
def hexN (s : ByteArray) : Int := (hexV s).getD 0
def hexB (s : ByteArray) : Bool := (hexV s).isSome

theorem hx_go (s : ByteArray) (k p : Nat) (v : Int) (hk : k ≠ 0) (h : dok (at8 s p) = true) : hx s k p v = hx s (k - 1) (p + 1) (v * 16 + dv (at8 s p)) := by
  cases k with
  | zero => omega
  | succ k => rw [hx, if_pos h]; rfl
theorem hx_no (s : ByteArray) (k p : Nat) (v : Int) (hk : k ≠ 0) (h : dok (at8 s p) = false) : hx s k p v = none := by
  cases k with
  | zero => omega
  | succ k => rw [hx, if_neg (by simp [h])]

/-- How great the number of so many digits may be. -/
def Lim (p : Nat) (v : Int) : Prop := 0 ≤ v ∧ (p = 0 → v ≤ 0) ∧ (p = 1 → v ≤ 15) ∧ (p = 2 → v ≤ 255) ∧ (p = 3 → v ≤ 4095) ∧ (p = 4 → v ≤ 65535) ∧ (p = 5 → v ≤ 1048575) ∧ (p = 6 → v ≤ 16777215)
theorem Lim.step {p : Nat} {v d : Int} (h : Lim p v) (hp : p < 6) (h0 : 0 ≤ d) (h1 : d ≤ 15) : Lim (p + 1) (v * 16 + d) := by unfold Lim at *; omega
theorem Lim.le {p : Nat} {v : Int} (h : Lim p v) (hp : p ≤ 6) : 0 ≤ v ∧ v ≤ 16777215 := by unfold Lim at h; omega

theorem or_digit (v d : Int) (h0 : 0 ≤ v) (h1 : v ≤ 16777215) (hd : 0 ≤ d) (hd1 : d ≤ 15) : bits BinOp.or IntKind.i64 (v * 16) d = v * 16 + d :=
  bits_join .i64 63 (by decide) (fun n a b => by rw [IntKind.wrap_i64]; omega) 4 _ _ (by omega) (by omega) (by omega) (by omega) (by omega) (by omega)

theorem hexV_short (s : ByteArray) (h : s.size < 4 ∨ 6 < s.size) : hexV s = none := by unfold hexV; rw [if_pos h]
theorem hexV_none (s : ByteArray) (h : hx s s.size 0 0 = none) : hexV s = none := by
  unfold hexV; split
  · rfl
  · rw [h]; rfl
theorem hexV_big (s : ByteArray) (v : Int) (h : hx s s.size 0 0 = some v) (hv : 1114111 < v) : hexV s = none := by
  unfold hexV; split
  · rfl
  · rw [h]; simp [hv]
theorem hexV_some (s : ByteArray) (v : Int) (h : hx s s.size 0 0 = some v) (hs : 4 ≤ s.size ∧ s.size ≤ 6) (hv : v ≤ 1114111) : hexV s = some v := by
  unfold hexV; rw [if_neg (by omega), h]; simp; omega
theorem hex_none {s : ByteArray} (h : hexV s = none) : hexN s = 0 ∧ hexB s = false := by unfold hexN hexB; rw [h]; exact ⟨rfl, rfl⟩
theorem hex_some {s : ByteArray} {v : Int} (h : hexV s = some v) : hexN s = v ∧ hexB s = true := by unfold hexN hexB; rw [h]; exact ⟨rfl, rfl⟩

theorem rhex_short (s : ByteArray) (w : World) (h : s.size < 4 ∨ 6 < s.size) (hs : s.size ≤ 9223372036854775807) :
    Calls Tryz.prog 64 #[.string s] w fun e w' => e = .returned (.tuple #[.int .i64 (hexN s), .bool (hexB s)]) ∧ w' = w := by
  obtain ⟨e1, e2⟩ := hex_none (hexV_short s h)
  rw [e1, e2]
  rcases h with h | h
  · go_enter Tryz.func64, Tryz.ntmps64
    go_wp2
    all_goals (go_ret2; exact ⟨rfl, rfl⟩)
  · have h' : ¬ s.size < 4 := by omega
    go_enter Tryz.func64, Tryz.ntmps64
    go_wp2
    all_goals (go_ret2; exact ⟨rfl, rfl⟩)
end Go.Proofs.YtlidgjkipbijlaaGreatDoor.lin
end

section
/- A string's parts between a byte, as plain lists. -/
set_option linter.unusedVariables false
set_option linter.unusedSimpArgs false
namespace Go.Proofs.YtlidgjkipbijlaaGreatDoor.lin
open Go.RowKit

/-- The parts of s from a on between bytes b: p is looked at, k bytes are left. -/
def cuts (s : ByteArray) (b : Int) : Nat → Nat → Nat → List ByteArray
  | 0, _, a => [s.extract a s.size]
  | k + 1, p, a => if at8 s p = b then s.extract a p :: cuts s b k (p + 1) (p + 1) else cuts s b k (p + 1) a
/-- A string's parts between a byte. -/
def cutV (s : ByteArray) (b : Int) : List ByteArray := cuts s b s.size 0 0

theorem cuts_hit (s : ByteArray) (b : Int) (k p a : Nat) (hk : k ≠ 0) (h : at8 s p = b) : cuts s b k p a = s.extract a p :: cuts s b (k - 1) (p + 1) (p + 1) := by
  cases k with
  | zero => omega
  | succ k => rw [cuts, if_pos h]; rfl
theorem cuts_not (s : ByteArray) (b : Int) (k p a : Nat) (hk : k ≠ 0) (h : at8 s p ≠ b) : cuts s b k p a = cuts s b (k - 1) (p + 1) a := by
  cases k with
  | zero => omega
  | succ k => rw [cuts, if_neg h]; rfl
theorem cuts_skip (s : ByteArray) (b : Int) : ∀ q p a, p + q ≤ s.size → (∀ j, p ≤ j → j < p + q → at8 s j ≠ b) → cuts s b (s.size - p) p a = cuts s b (s.size - (p + q)) (p + q) a := by
  intro q
  induction q with
  | zero => intro p a _ _; rfl
  | succ q ih =>
    intro p a hp h
    rw [cuts_not s b (s.size - p) p a (by omega) (h p (Nat.le_refl _) (by omega)), show s.size - p - 1 = s.size - (p + 1) from by omega, ih (p + 1) a (by omega) (fun j h1 h2 => h j (by omega) (by omega)), show p + 1 + q = p + (q + 1) from by omega]

theorem ext_get (s : ByteArray) (a k : Nat) : (s.extract a s.size).data.toList[k]? = if h : a + k < s.size then some (s[a + k]'h) else none := by
  rw [ByteArray.data_extract, Array.getElem?_toList]
  show (s.data.extract a s.data.size)[k]? = _
  rw [Array.getElem?_extract]
  split
  · rename_i h
    have hz : s.data.size = s.size := rfl
    have h' : a + k < s.size := by simp at h; omega
    rw [dif_pos h']
    exact Array.getElem?_eq_getElem h'
  · rename_i h
    rw [dif_neg]
    intro h'
    apply h
    have : a + k < s.data.size := h'
    simp; omega

theorem rest_none (s : ByteArray) (a : Nat) (ha : a ≤ s.size) (h : Lib.indexByte (s.extract a s.size).data.toList 10 = -1) : cuts s 10 (s.size - a) a a = [s.extract a s.size] := by
  have hn := Lib.indexByte_none h
  rw [cuts_skip s 10 (s.size - a) a a (by omega) ?_, show s.size - (a + (s.size - a)) = 0 from by omega]
  · rfl
  · intro j h1 h2
    have hj : j < s.size := by omega
    have := hn (j - a)
    rw [ext_get, dif_pos (by omega : a + (j - a) < s.size)] at this
    rw [at8_eq s j hj]
    intro e
    apply this
    congr 1
    simp only [show a + (j - a) = j from by omega]
    apply UInt8.toNat_inj.1
    show _ = 10
    omega

theorem rest_some (s : ByteArray) (a o : Nat) (ha : a ≤ s.size) (h : Lib.indexByte (s.extract a s.size).data.toList 10 = o) :
    a + o < s.size ∧ cuts s 10 (s.size - a) a a = s.extract a (a + o) :: cuts s 10 (s.size - (a + o + 1)) (a + o + 1) (a + o + 1) := by
  obtain ⟨h1, h2⟩ := Lib.indexByte_some h
  have hlt : a + o < s.size := by
    rw [ext_get] at h1
    split at h1
    · assumption
    · cases h1
  refine ⟨hlt, ?_⟩
  rw [cuts_skip s 10 o a a (by omega) ?_, cuts_hit s 10 (s.size - (a + o)) (a + o) a (by omega) ?_, show s.size - (a + o) - 1 = s.size - (a + o + 1) from by omega]
  · rw [ext_get, dif_pos hlt] at h1
    rw [at8_eq s _ hlt, Option.some.inj h1]; rfl
  · intro j hj1 hj2
    have := h2 (j - a) (by omega)
    have hj : j < s.size := by omega
    rw [ext_get, dif_pos (by omega : a + (j - a) < s.size)] at this
    rw [at8_eq s j hj]
    intro e
    apply this
    congr 1
    simp only [show a + (j - a) = j from by omega]
    apply UInt8.toNat_inj.1
    show _ = 10
    omega

theorem ext_ext (s : ByteArray) (a i j : Nat) (ha : a ≤ s.size) : (s.extract a s.size).extract i j = s.extract (a + i) (min (a + j) s.size) := by
  rw [ByteArray.extract_extract]
theorem ext_first (s : ByteArray) (a o : Nat) (h : a + o ≤ s.size) : (s.extract a s.size).extract 0 o = s.extract a (a + o) := by
  rw [ext_ext s a 0 o (by omega), Nat.add_zero, Nat.min_eq_left h]
theorem ext_last (s : ByteArray) (a o : Nat) (ha : a ≤ s.size) : (s.extract a s.size).extract o (s.extract a s.size).size = s.extract (a + o) s.size := by
  rw [ext_ext s a o _ ha, ByteArray.size_extract]
  congr 1
  omega
end Go.Proofs.YtlidgjkipbijlaaGreatDoor.lin
end

section
/- The shelf's contracts on strings and slices, at this dump's numbers. -/
namespace Go.Proofs
open Go.Shelf
def Tryz.lays160_ren : Go.Shelf.Ren := ⟨fun | 160 => 139 | 232 => 150 | 231 => 149 | 227 => 151 | 234 => 153 | 233 => 152 | 236 => 155 | 235 => 154 | 228 => 167 | 271 => 169 | 151 => 168 | 197 => 126 | 120 => 174 | 152 => 173 | 260 => 145 | 137 => 179 | 119 => 180 | 224 => 165 | 225 => 164 | 217 => 163 | 266 => 171 | n => n, fun | 9 => 9 | 4 => 4 | 3 => 3 | 5 => 5 | 117 => 209 | 116 => 208 | 0 => 0 | 124 => 212 | 21 => 21 | 105 => 186 | 46 => 46 | 119 => 185 | 139 => 220 | 138 => 219 | n => n, fun | 3 => 4 | 4 => 5 | n => n⟩
theorem Tryz.lays160 : Go.Proofs.Lays.n160 Tryz.prog Tryz.lays160_ren := {
  mixed := by kernel_rfl
  f119 := Tryz.func180.trans (congrArg some (by kernel_rfl))
  f120 := Tryz.func174.trans (congrArg some (by kernel_rfl))
  f137 := Tryz.func179.trans (congrArg some (by kernel_rfl))
  f151 := Tryz.func168.trans (congrArg some (by kernel_rfl))
  f152 := Tryz.func173.trans (congrArg some (by kernel_rfl))
  f160 := Tryz.func139.trans (congrArg some (by kernel_rfl))
  f197 := Tryz.func126.trans (congrArg some (by kernel_rfl))
  f217 := Tryz.func163.trans (congrArg some (by kernel_rfl))
  f224 := Tryz.func165.trans (congrArg some (by kernel_rfl))
  f225 := Tryz.func164.trans (congrArg some (by kernel_rfl))
  f227 := Tryz.func151.trans (congrArg some (by kernel_rfl))
  f228 := Tryz.func167.trans (congrArg some (by kernel_rfl))
  f231 := Tryz.func149.trans (congrArg some (by kernel_rfl))
  f232 := Tryz.func150.trans (congrArg some (by kernel_rfl))
  f233 := Tryz.func152.trans (congrArg some (by kernel_rfl))
  f234 := Tryz.func153.trans (congrArg some (by kernel_rfl))
  f235 := Tryz.func154.trans (congrArg some (by kernel_rfl))
  f236 := Tryz.func155.trans (congrArg some (by kernel_rfl))
  f260 := Tryz.func145.trans (congrArg some (by kernel_rfl))
  f266 := Tryz.func171.trans (congrArg some (by kernel_rfl))
  f271 := Tryz.func169.trans (congrArg some (by kernel_rfl))
  t0 := Tryz.underlying0
  a0 := Tryz.isAgg0
  z0 := Tryz.sizeOf0
  v0 := Tryz.zeroValue0
  t3 := Tryz.underlying3
  a3 := Tryz.isAgg3
  z3 := Tryz.sizeOf3
  v3 := Tryz.zeroValue3
  t4 := Tryz.underlying4
  a4 := Tryz.isAgg4
  z4 := Tryz.sizeOf4
  v4 := Tryz.zeroValue4
  t5 := Tryz.underlying5
  a5 := Tryz.isAgg5
  z5 := Tryz.sizeOf5
  v5 := Tryz.zeroValue5
  t9 := Tryz.underlying9
  a9 := Tryz.isAgg9
  z9 := Tryz.sizeOf9
  v9 := Tryz.zeroValue9
  t21 := Tryz.underlying21
  a21 := Tryz.isAgg21
  z21 := Tryz.sizeOf21
  v21 := Tryz.zeroValue21
  t46 := Tryz.underlying46
  a46 := Tryz.isAgg46
  z46 := Tryz.sizeOf46
  v46 := Tryz.zeroValue46
  t105 := Tryz.underlying186
  a105 := Tryz.isAgg186
  z105 := Tryz.sizeOf186
  v105 := Tryz.zeroValue186
  t116 := Tryz.underlying208
  a116 := Tryz.isAgg208
  z116 := Tryz.sizeOf208
  t117 := Tryz.underlying209
  a117 := Tryz.isAgg209
  z117 := Tryz.sizeOf209
  v117 := Tryz.zeroValue209
  t119 := Tryz.underlying185
  a119 := Tryz.isAgg185
  z119 := Tryz.sizeOf185
  t124 := Tryz.underlying212
  a124 := Tryz.isAgg212
  z124 := Tryz.sizeOf212
  v124 := Tryz.zeroValue212
  t138 := Tryz.underlying219
  a138 := Tryz.isAgg219
  z138 := Tryz.sizeOf219
  v138 := Tryz.zeroValue219
  t139 := Tryz.underlying220
  a139 := Tryz.isAgg220
  z139 := Tryz.sizeOf220
  v139 := Tryz.zeroValue220
  g3 := by kernel_rfl
  g4 := by kernel_rfl }
open Go.RowKit in
theorem Tryz.strings_Trim_one (s : ByteArray) (c : UInt8) (hc : c.toNat < 128) (w : World) (hs : s.size ≤ 9223372036854775807) :
    Calls Tryz.prog 139 #[.string s, .string ⟨#[c]⟩] w fun e w' => e = .returned (.string ⟨(Lib.trimB s.data.toList c).toArray⟩) ∧ (w' = w ∨ w' = w.drew) := Any.strings_Trim_one Tryz.lays160 s c hc w hs
def Tryz.lays172_ren : Go.Shelf.Ren := ⟨fun | 172 => 77 | 244 => 103 | 245 => 104 | 247 => 120 | 279 => 121 | 280 => 122 | 281 => 123 | 282 => 124 | 287 => 141 | 316 => 142 | 171 => 144 | 205 => 143 | 321 => 157 | 322 => 158 | 243 => 159 | 246 => 170 | 283 => 175 | 284 => 176 | 285 => 177 | 286 => 178 | 129 => 182 | 317 => 181 | 318 => 183 | 319 => 184 | 320 => 185 | 337 => 186 | 338 => 187 | n => n, fun | 9 => 9 | 3 => 3 | 75 => 125 | 76 => 126 | 4 => 4 | 5 => 5 | 167 => 178 | 37 => 22 | 0 => 0 | 85 => 179 | 2 => 2 | 168 => 181 | 53 => 196 | 175 => 197 | 46 => 46 | 210 => 200 | 127 => 214 | 145 => 217 | 143 => 215 | 21 => 21 | 171 => 241 | 173 => 244 | 212 => 247 | 51 => 202 | 20 => 20 | 213 => 248 | 232 => 251 | 233 => 252 | 80 => 76 | n => n, fun | 15 => 1 | 16 => 2 | 17 => 7 | 18 => 8 | 19 => 9 | n => n⟩
theorem Tryz.lays172 : Go.Proofs.Lays.n172 Tryz.prog Tryz.lays172_ren := {
  mixed := by kernel_rfl
  f129 := Tryz.func182.trans (congrArg some (by kernel_rfl))
  f171 := Tryz.func144.trans (congrArg some (by kernel_rfl))
  f172 := Tryz.func77.trans (congrArg some (by kernel_rfl))
  f205 := Tryz.func143.trans (congrArg some (by kernel_rfl))
  f243 := Tryz.func159.trans (congrArg some (by kernel_rfl))
  f244 := Tryz.func103.trans (congrArg some (by kernel_rfl))
  f245 := Tryz.func104.trans (congrArg some (by kernel_rfl))
  f246 := Tryz.func170.trans (congrArg some (by kernel_rfl))
  f247 := Tryz.func120.trans (congrArg some (by kernel_rfl))
  f279 := Tryz.func121.trans (congrArg some (by kernel_rfl))
  f280 := Tryz.func122.trans (congrArg some (by kernel_rfl))
  f281 := Tryz.func123.trans (congrArg some (by kernel_rfl))
  f282 := Tryz.func124.trans (congrArg some (by kernel_rfl))
  f283 := Tryz.func175.trans (congrArg some (by kernel_rfl))
  f284 := Tryz.func176.trans (congrArg some (by kernel_rfl))
  f285 := Tryz.func177.trans (congrArg some (by kernel_rfl))
  f286 := Tryz.func178.trans (congrArg some (by kernel_rfl))
  f287 := Tryz.func141.trans (congrArg some (by kernel_rfl))
  f316 := Tryz.func142.trans (congrArg some (by kernel_rfl))
  f317 := Tryz.func181.trans (congrArg some (by kernel_rfl))
  f318 := Tryz.func183.trans (congrArg some (by kernel_rfl))
  f319 := Tryz.func184.trans (congrArg some (by kernel_rfl))
  f320 := Tryz.func185.trans (congrArg some (by kernel_rfl))
  f321 := Tryz.func157.trans (congrArg some (by kernel_rfl))
  f322 := Tryz.func158.trans (congrArg some (by kernel_rfl))
  f337 := Tryz.func186.trans (congrArg some (by kernel_rfl))
  f338 := Tryz.func187.trans (congrArg some (by kernel_rfl))
  t0 := Tryz.underlying0
  a0 := Tryz.isAgg0
  z0 := Tryz.sizeOf0
  v0 := Tryz.zeroValue0
  t2 := Tryz.underlying2
  a2 := Tryz.isAgg2
  z2 := Tryz.sizeOf2
  v2 := Tryz.zeroValue2
  t3 := Tryz.underlying3
  a3 := Tryz.isAgg3
  z3 := Tryz.sizeOf3
  v3 := Tryz.zeroValue3
  t4 := Tryz.underlying4
  a4 := Tryz.isAgg4
  z4 := Tryz.sizeOf4
  v4 := Tryz.zeroValue4
  t5 := Tryz.underlying5
  a5 := Tryz.isAgg5
  z5 := Tryz.sizeOf5
  v5 := Tryz.zeroValue5
  t9 := Tryz.underlying9
  a9 := Tryz.isAgg9
  z9 := Tryz.sizeOf9
  v9 := Tryz.zeroValue9
  t20 := Tryz.underlying20
  a20 := Tryz.isAgg20
  z20 := Tryz.sizeOf20
  v20 := Tryz.zeroValue20
  t21 := Tryz.underlying21
  a21 := Tryz.isAgg21
  z21 := Tryz.sizeOf21
  v21 := Tryz.zeroValue21
  t37 := Tryz.underlying22
  a37 := Tryz.isAgg22
  z37 := Tryz.sizeOf22
  v37 := Tryz.zeroValue22
  t46 := Tryz.underlying46
  a46 := Tryz.isAgg46
  z46 := Tryz.sizeOf46
  v46 := Tryz.zeroValue46
  t51 := Tryz.underlying202
  a51 := Tryz.isAgg202
  z51 := Tryz.sizeOf202
  v51 := Tryz.zeroValue202
  t53 := Tryz.underlying196
  a53 := Tryz.isAgg196
  z53 := Tryz.sizeOf196
  v53 := Tryz.zeroValue196
  t75 := Tryz.underlying125
  a75 := Tryz.isAgg125
  z75 := Tryz.sizeOf125
  v75 := Tryz.zeroValue125
  t76 := Tryz.underlying126
  a76 := Tryz.isAgg126
  z76 := Tryz.sizeOf126
  v76 := Tryz.zeroValue126
  t85 := Tryz.underlying179
  a85 := Tryz.isAgg179
  z85 := Tryz.sizeOf179
  v85 := Tryz.zeroValue179
  t127 := Tryz.underlying214
  a127 := Tryz.isAgg214
  z127 := Tryz.sizeOf214
  v127 := Tryz.zeroValue214
  t143 := Tryz.underlying215
  a143 := Tryz.isAgg215
  z143 := Tryz.sizeOf215
  v143 := Tryz.zeroValue215
  t145 := Tryz.underlying217
  a145 := Tryz.isAgg217
  z145 := Tryz.sizeOf217
  v145 := Tryz.zeroValue217
  t167 := Tryz.underlying178
  a167 := Tryz.isAgg178
  z167 := Tryz.sizeOf178
  v167 := Tryz.zeroValue178
  t168 := Tryz.underlying181
  a168 := Tryz.isAgg181
  z168 := Tryz.sizeOf181
  v168 := Tryz.zeroValue181
  t171 := Tryz.underlying241
  a171 := Tryz.isAgg241
  z171 := Tryz.sizeOf241
  v171 := Tryz.zeroValue241
  t173 := Tryz.underlying244
  a173 := Tryz.isAgg244
  z173 := Tryz.sizeOf244
  v173 := Tryz.zeroValue244
  t175 := Tryz.underlying197
  a175 := Tryz.isAgg197
  z175 := Tryz.sizeOf197
  v175 := Tryz.zeroValue197
  t210 := Tryz.underlying200
  a210 := Tryz.isAgg200
  z210 := Tryz.sizeOf200
  v210 := Tryz.zeroValue200
  t212 := Tryz.underlying247
  a212 := Tryz.isAgg247
  z212 := Tryz.sizeOf247
  v212 := Tryz.zeroValue247
  t213 := Tryz.underlying248
  a213 := Tryz.isAgg248
  z213 := Tryz.sizeOf248
  t232 := Tryz.underlying251
  a232 := Tryz.isAgg251
  z232 := Tryz.sizeOf251
  v232 := Tryz.zeroValue251
  t233 := Tryz.underlying252
  a233 := Tryz.isAgg252
  z233 := Tryz.sizeOf252
  v233 := Tryz.zeroValue252
  g15 := by kernel_rfl
  g16 := by kernel_rfl
  g17 := by kernel_rfl
  g18 := by kernel_rfl
  g19 := by kernel_rfl }
open Go.RowKit in
theorem Tryz.strconv_Atoi (s : ByteArray) (n : Int) (hl : s.size ≤ 18) (h : Lib.atoi s.data.toList = some n) (w : World) :
    Calls Tryz.prog 77 #[.string s] w fun e w' => e = .returned (.tuple #[.int .i64 n, .nilIface]) ∧ ∃ t, w' = Lib.bytesWorld w 5 t := Any.strconv_Atoi Tryz.lays172 s n hl h w
def Tryz.laysM316_ren : Go.Shelf.Ren := ⟨fun | 316 => 142 | n => n, fun | 9 => 9 | 3 => 3 | 4 => 4 | 37 => 22 | 0 => 0 | 127 => 214 | 5 => 5 | n => n, fun | n => n⟩
theorem Tryz.laysM316 : Go.Proofs.LaysM.n316 Tryz.prog Tryz.laysM316_ren := {
  mixed := by kernel_rfl
  f316 := Tryz.func142.trans (congrArg some (by kernel_rfl))
  t0 := Tryz.underlying0
  a0 := Tryz.isAgg0
  z0 := Tryz.sizeOf0
  v0 := Tryz.zeroValue0
  t3 := Tryz.underlying3
  a3 := Tryz.isAgg3
  z3 := Tryz.sizeOf3
  v3 := Tryz.zeroValue3
  t4 := Tryz.underlying4
  a4 := Tryz.isAgg4
  z4 := Tryz.sizeOf4
  v4 := Tryz.zeroValue4
  t9 := Tryz.underlying9
  a9 := Tryz.isAgg9
  z9 := Tryz.sizeOf9
  v9 := Tryz.zeroValue9
  t37 := Tryz.underlying22
  a37 := Tryz.isAgg22
  z37 := Tryz.sizeOf22
  v37 := Tryz.zeroValue22
  t127 := Tryz.underlying214
  a127 := Tryz.isAgg214
  z127 := Tryz.sizeOf214
  v127 := Tryz.zeroValue214
  t5 := Tryz.underlying5
  a5 := Tryz.isAgg5
  z5 := Tryz.sizeOf5
  v5 := Tryz.zeroValue5
  i0 := by kernel_rfl
  i3 := by kernel_rfl
  i4 := by kernel_rfl
  i5 := by kernel_rfl
  i9 := by kernel_rfl
  i37 := by kernel_rfl
  i127 := by kernel_rfl }
open Go.RowKit in
theorem Tryz.stringslite_Clone (s : ByteArray) (w : World) (hlim : s.size ≤ 281474976710656) :
    Calls Tryz.prog 142 #[.string s] w fun e w' => e = .returned (.string s) ∧ Below w.heap.size w w' := Any.stringslite_Clone Tryz.laysM316 s w hlim
def Tryz.lays143_ren : Go.Shelf.Ren := ⟨fun | 143 => 137 | 219 => 148 | 217 => 163 | 225 => 164 | 224 => 165 | 267 => 166 | 266 => 171 | 314 => 172 | n => n, fun | 9 => 9 | 3 => 3 | 4 => 4 | 5 => 5 | 46 => 46 | 146 => 238 | 51 => 202 | n => n, fun | 1 => 6 | n => n⟩
theorem Tryz.lays143 : Go.Proofs.Lays.n143 Tryz.prog Tryz.lays143_ren := {
  mixed := by kernel_rfl
  f143 := Tryz.func137.trans (congrArg some (by kernel_rfl))
  f217 := Tryz.func163.trans (congrArg some (by kernel_rfl))
  f219 := Tryz.func148.trans (congrArg some (by kernel_rfl))
  f224 := Tryz.func165.trans (congrArg some (by kernel_rfl))
  f225 := Tryz.func164.trans (congrArg some (by kernel_rfl))
  f266 := Tryz.func171.trans (congrArg some (by kernel_rfl))
  f267 := Tryz.func166.trans (congrArg some (by kernel_rfl))
  f314 := Tryz.func172.trans (congrArg some (by kernel_rfl))
  t3 := Tryz.underlying3
  a3 := Tryz.isAgg3
  z3 := Tryz.sizeOf3
  v3 := Tryz.zeroValue3
  t4 := Tryz.underlying4
  a4 := Tryz.isAgg4
  z4 := Tryz.sizeOf4
  v4 := Tryz.zeroValue4
  t5 := Tryz.underlying5
  a5 := Tryz.isAgg5
  z5 := Tryz.sizeOf5
  v5 := Tryz.zeroValue5
  t9 := Tryz.underlying9
  a9 := Tryz.isAgg9
  z9 := Tryz.sizeOf9
  v9 := Tryz.zeroValue9
  t46 := Tryz.underlying46
  a46 := Tryz.isAgg46
  z46 := Tryz.sizeOf46
  v46 := Tryz.zeroValue46
  t51 := Tryz.underlying202
  a51 := Tryz.isAgg202
  z51 := Tryz.sizeOf202
  v51 := Tryz.zeroValue202
  t146 := Tryz.underlying238
  a146 := Tryz.isAgg238
  z146 := Tryz.sizeOf238
  v146 := Tryz.zeroValue238
  g1 := by kernel_rfl }
open Go.RowKit Go.Lib in
theorem Tryz.strings_Index_one (s : ByteArray) (c : UInt8) (w : World) :
    Calls Tryz.prog 137 #[.string s, .string ⟨#[c]⟩] w fun e w' => e = .returned (.int .i64 (Lib.indexByte s.data.toList c)) ∧ w' = w := Any.strings_Index_one Tryz.lays143 s c w
def Tryz.lays145_ren : Go.Shelf.Ren := ⟨fun | 145 => 140 | 220 => 156 | 219 => 148 | 217 => 163 | 225 => 164 | 224 => 165 | 267 => 166 | 266 => 171 | 314 => 172 | n => n, fun | 9 => 9 | 4 => 4 | 59 => 194 | 3 => 3 | 5 => 5 | 46 => 46 | 146 => 238 | 51 => 202 | n => n, fun | 1 => 6 | n => n⟩
theorem Tryz.lays145 : Go.Proofs.Lays.n145 Tryz.prog Tryz.lays145_ren := {
  mixed := by kernel_rfl
  f145 := Tryz.func140.trans (congrArg some (by kernel_rfl))
  f217 := Tryz.func163.trans (congrArg some (by kernel_rfl))
  f219 := Tryz.func148.trans (congrArg some (by kernel_rfl))
  f220 := Tryz.func156.trans (congrArg some (by kernel_rfl))
  f224 := Tryz.func165.trans (congrArg some (by kernel_rfl))
  f225 := Tryz.func164.trans (congrArg some (by kernel_rfl))
  f266 := Tryz.func171.trans (congrArg some (by kernel_rfl))
  f267 := Tryz.func166.trans (congrArg some (by kernel_rfl))
  f314 := Tryz.func172.trans (congrArg some (by kernel_rfl))
  t3 := Tryz.underlying3
  a3 := Tryz.isAgg3
  z3 := Tryz.sizeOf3
  v3 := Tryz.zeroValue3
  t4 := Tryz.underlying4
  a4 := Tryz.isAgg4
  z4 := Tryz.sizeOf4
  v4 := Tryz.zeroValue4
  t5 := Tryz.underlying5
  a5 := Tryz.isAgg5
  z5 := Tryz.sizeOf5
  v5 := Tryz.zeroValue5
  t9 := Tryz.underlying9
  a9 := Tryz.isAgg9
  z9 := Tryz.sizeOf9
  v9 := Tryz.zeroValue9
  t46 := Tryz.underlying46
  a46 := Tryz.isAgg46
  z46 := Tryz.sizeOf46
  v46 := Tryz.zeroValue46
  t51 := Tryz.underlying202
  a51 := Tryz.isAgg202
  z51 := Tryz.sizeOf202
  v51 := Tryz.zeroValue202
  t59 := Tryz.underlying194
  a59 := Tryz.isAgg194
  z59 := Tryz.sizeOf194
  v59 := Tryz.zeroValue194
  t146 := Tryz.underlying238
  a146 := Tryz.isAgg238
  z146 := Tryz.sizeOf238
  v146 := Tryz.zeroValue238
  g1 := by kernel_rfl }
open Go.RowKit Go.Lib in
theorem Tryz.strings_Cut (s sep : ByteArray) (m : Int) (w : World) (hs : s.size < 4294967281) (hm : w.cell? ⟨6, 0, none⟩ = some (.int .i64 m)) :
    Calls Tryz.prog 140 #[.string s, .string sep] w fun e w' => e = .returned (.tuple #[.string ⟨(Lib.cut s.data.toList sep.data.toList).1.toArray⟩, .string ⟨(Lib.cut s.data.toList sep.data.toList).2.1.toArray⟩, .bool (Lib.cut s.data.toList sep.data.toList).2.2]) ∧ ∃ n, w' = w.drewN n := Any.strings_Cut Tryz.lays145 s sep m w hs hm
def Tryz.lays199_ren : Go.Shelf.Ren := ⟨fun | 199 => 127 | 261 => 146 | 311 => 160 | 312 => 161 | n => n, fun | 21 => 21 | 4 => 4 | 51 => 202 | 141 => 204 | 0 => 0 | 196 => 224 | 193 => 221 | 3 => 3 | 198 => 227 | 49 => 225 | 194 => 222 | 201 => 230 | 226 => 236 | 46 => 46 | 227 => 237 | n => n, fun | 6 => 3 | n => n⟩
theorem Tryz.lays199 : Go.Proofs.Lays.n199 Tryz.prog Tryz.lays199_ren := {
  mixed := by kernel_rfl
  f199 := Tryz.func127.trans (congrArg some (by kernel_rfl))
  f261 := Tryz.func146.trans (congrArg some (by kernel_rfl))
  f311 := Tryz.func160.trans (congrArg some (by kernel_rfl))
  f312 := Tryz.func161.trans (congrArg some (by kernel_rfl))
  t0 := Tryz.underlying0
  a0 := Tryz.isAgg0
  z0 := Tryz.sizeOf0
  v0 := Tryz.zeroValue0
  t3 := Tryz.underlying3
  a3 := Tryz.isAgg3
  z3 := Tryz.sizeOf3
  v3 := Tryz.zeroValue3
  t4 := Tryz.underlying4
  a4 := Tryz.isAgg4
  z4 := Tryz.sizeOf4
  v4 := Tryz.zeroValue4
  t21 := Tryz.underlying21
  a21 := Tryz.isAgg21
  z21 := Tryz.sizeOf21
  v21 := Tryz.zeroValue21
  t46 := Tryz.underlying46
  a46 := Tryz.isAgg46
  z46 := Tryz.sizeOf46
  v46 := Tryz.zeroValue46
  t49 := Tryz.underlying225
  a49 := Tryz.isAgg225
  z49 := Tryz.sizeOf225
  v49 := Tryz.zeroValue225
  t51 := Tryz.underlying202
  a51 := Tryz.isAgg202
  z51 := Tryz.sizeOf202
  v51 := Tryz.zeroValue202
  t141 := Tryz.underlying204
  a141 := Tryz.isAgg204
  z141 := Tryz.sizeOf204
  v141 := Tryz.zeroValue204
  t193 := Tryz.underlying221
  a193 := Tryz.isAgg221
  z193 := Tryz.sizeOf221
  v193 := Tryz.zeroValue221
  t194 := Tryz.underlying222
  a194 := Tryz.isAgg222
  z194 := Tryz.sizeOf222
  v194 := Tryz.zeroValue222
  t196 := Tryz.underlying224
  a196 := Tryz.isAgg224
  z196 := Tryz.sizeOf224
  v196 := Tryz.zeroValue224
  t198 := Tryz.underlying227
  a198 := Tryz.isAgg227
  z198 := Tryz.sizeOf227
  v198 := Tryz.zeroValue227
  t201 := Tryz.underlying230
  a201 := Tryz.isAgg230
  z201 := Tryz.sizeOf230
  v201 := Tryz.zeroValue230
  t226 := Tryz.underlying236
  a226 := Tryz.isAgg236
  z226 := Tryz.sizeOf236
  v226 := Tryz.zeroValue236
  t227 := Tryz.underlying237
  a227 := Tryz.isAgg237
  z227 := Tryz.sizeOf237
  v227 := Tryz.zeroValue237
  g6 := by kernel_rfl }
open Go.RowKit Go.Lib in
theorem Tryz.unicode_IsSpace (r : Int) (w : World) (h0 : 0 ≤ r) (h : r ≤ 255) :
    Calls Tryz.prog 127 #[.int .i32 r] w fun e w' => e = .returned (.bool (Lib.isSpaceL r)) ∧ w' = w := Any.unicode_IsSpace Tryz.lays199 r w h0 h
def Tryz.lays111_ren : Go.Shelf.Ren := ⟨fun | 111 => 12 | n => n, fun | 28 => 35 | 3 => 3 | 4 => 4 | 0 => 0 | n => n, fun | n => n⟩
theorem Tryz.lays111 : Go.Proofs.Lays.n111 Tryz.prog Tryz.lays111_ren := {
  mixed := by kernel_rfl
  f111 := Tryz.func12.trans (congrArg some (by kernel_rfl))
  t0 := Tryz.underlying0
  a0 := Tryz.isAgg0
  z0 := Tryz.sizeOf0
  v0 := Tryz.zeroValue0
  t3 := Tryz.underlying3
  a3 := Tryz.isAgg3
  z3 := Tryz.sizeOf3
  v3 := Tryz.zeroValue3
  t4 := Tryz.underlying4
  a4 := Tryz.isAgg4
  z4 := Tryz.sizeOf4
  v4 := Tryz.zeroValue4
  t28 := Tryz.underlying35
  a28 := Tryz.isAgg35
  z28 := Tryz.sizeOf35
  v28 := Tryz.zeroValue35 }
open Go.RowKit Go.Lib in
theorem Tryz.slices_Equal_int (b1 o1 n c b2 o2 m d : Nat) (xs ys : List Int) (w : World) (hx : n ≤ xs.length) (hy : m ≤ ys.length) (hbig : n ≤ 9223372036854775807) (hbig2 : m ≤ 9223372036854775807) (hc1 : ∀ j, j < xs.length → w.cell? ⟨b1, o1 + j, none⟩ = some (.int .i64 (xs.getD j 0))) (hc2 : ∀ j, j < ys.length → w.cell? ⟨b2, o2 + j, none⟩ = some (.int .i64 (ys.getD j 0))) :
    Calls Tryz.prog 12 #[.slice (some ⟨b1, o1, none⟩) n c, .slice (some ⟨b2, o2, none⟩) m d] w fun e w' => e = .returned (.bool (xs.take n == ys.take m)) ∧ ∃ q, w' = w.drewN q := Any.slices_Equal_int Tryz.lays111 b1 o1 n c b2 o2 m d xs ys w hx hy hbig hbig2 hc1 hc2
open Go.RowKit Go.Lib in
theorem Tryz.slices_Equal_int_empty (a1 a2 : Option Addr) (c m d : Nat) (w : World) (hbig2 : m ≤ 9223372036854775807) :
    Calls Tryz.prog 12 #[.slice a1 0 c, .slice a2 m d] w fun e w' => e = .returned (.bool (decide (m = 0))) ∧ w' = w := Any.slices_Equal_int_empty Tryz.lays111 a1 a2 c m d w hbig2
def Tryz.laysNm215_ren : Go.Shelf.Ren := ⟨fun | 15 => 107 | n => n, fun | 22 => 35 | 3 => 3 | 4 => 4 | n => n, fun | n => n⟩
theorem Tryz.laysNm215 : Go.Proofs.Lays2.n15 Tryz.prog Tryz.laysNm215_ren := {
  mixed := by kernel_rfl
  f15 := Tryz.func107.trans (congrArg some (by kernel_rfl))
  t3 := Tryz.underlying3
  a3 := Tryz.isAgg3
  z3 := Tryz.sizeOf3
  v3 := Tryz.zeroValue3
  t4 := Tryz.underlying4
  a4 := Tryz.isAgg4
  z4 := Tryz.sizeOf4
  v4 := Tryz.zeroValue4
  t22 := Tryz.underlying35
  a22 := Tryz.isAgg35
  z22 := Tryz.sizeOf35
  v22 := Tryz.zeroValue35
  i3 := by kernel_rfl }
open Go.RowKit Go.Lib in
theorem Tryz.slices_Clone_int (b off n c : Nat) (zs : List Int) (w : World) (hz : n ≤ zs.length) (hbig : n * 8 ≤ 140737488355328) (hc : ∀ j, j < zs.length → w.cell? ⟨b, off + j, none⟩ = some (.int .i64 (zs.getD j 0))) :
    Calls Tryz.prog 107 #[.slice (some ⟨b, off, none⟩) n c] w fun e w' => ∃ v', e = .returned v' ∧ w'.ownsRow w.heap.size 3 1 v' n ((zs.take n).map (Value.int .i64)) ∧ v' ≠ .slice none 0 0 ∧ Below w.heap.size w w' := Any.slices_Clone_int Tryz.laysNm215 b off n c zs w hz hbig hc
open Go.RowKit Go.Lib in
theorem Tryz.slices_Clone_int_nil (n c : Nat) (w : World) :
    Calls Tryz.prog 107 #[.slice none n c] w fun e w' => e = .returned (.slice none 0 0) ∧ w' = w := Any.slices_Clone_int_nil Tryz.laysNm215 n c w
open Go.RowKit Go.Lib in
theorem Tryz.slices_Clone_int_zero (a : Addr) (c : Nat) (w : World) :
    Calls Tryz.prog 107 #[.slice (some a) 0 c] w fun e w' => ∃ v', e = .returned v' ∧ w'.ownsRow w.heap.size 3 1 v' 0 [] ∧ v' ≠ .slice none 0 0 ∧ Below w.heap.size w w' := Any.slices_Clone_int_zero Tryz.laysNm215 a c w
open Go.RowKit Go.Lib in
theorem Tryz.slices_Equal_int_lens (a1 a2 : Option Addr) (n c m d : Nat) (w : World) (hnm : n ≠ m) :
    Calls Tryz.prog 12 #[.slice a1 n c, .slice a2 m d] w fun e w' => e = .returned (.bool false) ∧ w' = w := Any.slices_Equal_int_lens Tryz.lays111 a1 a2 n c m d w hnm
def Tryz.laysSlC25_f93_ren : Go.Shelf.Ren := ⟨fun | 5 => 93 | 7 => 80 | n => n, fun | 22 => 3 | 3 => 3 | 4 => 4 | n => n, fun | n => n⟩
theorem Tryz.laysSlC25_f93 : Go.Proofs.SlLaysC2.n5 Tryz.prog Tryz.laysSlC25_f93_ren := {
  mixed := by kernel_rfl
  f5 := ⟨Tryz.f93.name, by decide, Tryz.func93.trans (congrArg some (by kernel_rfl))⟩
  f7 := ⟨Tryz.f80.name, by decide, Tryz.func80.trans (congrArg some (by kernel_rfl))⟩
  t3 := Tryz.underlying3
  a3 := Tryz.isAgg3
  z3 := Tryz.sizeOf3
  v3 := Tryz.zeroValue3
  t4 := Tryz.underlying4
  a4 := Tryz.isAgg4
  z4 := Tryz.sizeOf4
  v4 := Tryz.zeroValue4
  t22 := Tryz.underlying3
  a22 := Tryz.isAgg3
  z22 := Tryz.sizeOf3
  v22 := Tryz.zeroValue3 }
open Go.Lib in
theorem Tryz.cmp_Compare_int (x y : Int) (w : World) :
    Calls Tryz.prog 93 #[.int .i64 x, .int .i64 y] w fun e w' => e = .returned (.int .i64 (Lib.compareInt x y)) ∧ w' = w := AnyG.cmp_Compare_int Tryz.laysSlC25_f93 x y w
open Go.RowKit Go.Lib in
theorem Tryz.strings_Trim_laid (s cutset : ByteArray) (w : World) (hs : s.size ≤ 9223372036854775807) (hcs : cutset.size < 4294967281) (hascii : ∀ (j : Nat) b, cutset.data.toList[j]? = some b → b.toNat < 128) :
    Calls Tryz.prog 139 #[.string s, .string cutset] w fun e w' => e = .returned (.string ⟨(Lib.trimS s.data.toList cutset.data.toList).toArray⟩) ∧ Below w.heap.size w w' := Any.strings_Trim_laid Tryz.lays160 (by kernel_rfl) s cutset w hs hcs hascii
end Go.Proofs
end

section
/- What lines.trimmed answers of any string: it without blanks and tabs at its ends. -/
set_option linter.unusedVariables false
set_option linter.unusedSimpArgs false
namespace Go.Proofs.YtlidgjkipbijlaaGreatDoor.lin
open Go.RowKit

/-- A string without blanks and tabs at its ends. -/
def trim (s : ByteArray) : ByteArray := ⟨(Lib.trimS s.data.toList [32, 9]).toArray⟩

theorem dropWhile_len {α : Type} (p : α → Bool) (l : List α) : (l.dropWhile p).length ≤ l.length := (List.dropWhile_suffix p).length_le
theorem trim_size (s : ByteArray) : (trim s).size ≤ s.size := by
  unfold trim
  show (Lib.trimS s.data.toList [32, 9]).toArray.size ≤ s.data.size
  have h : (Lib.trimS s.data.toList [32, 9]).length ≤ s.data.toList.length := by
    unfold Lib.trimS Lib.trimRightS Lib.trimLeftS
    refine Nat.le_trans (dropWhile_len _ _) ?_
    rw [List.length_reverse]
    refine Nat.le_trans (dropWhile_len _ _) ?_
    rw [List.length_reverse]
    exact Nat.le_refl _
  simpa using h

theorem clone_any (s : ByteArray) (w : World) (hs : s.size ≤ 281474976710656) :
    Calls Tryz.prog 138 #[.string s] w fun e w' => e = .returned (.string s) ∧ Below w.heap.size w w' := by
  have CL := Tryz.stringslite_Clone s w hs
  go_enter Tryz.func138, Tryz.ntmps138
  go_wp2_with (go_at_call 142; refine CL.mono ?_; rintro e w' ⟨rfl, hb⟩)
  go_ret
  exact ⟨rfl, by assumption⟩

theorem trimmed_any (s : ByteArray) (w : World) (hs : s.size ≤ 281474976710656) :
    Calls Tryz.prog 117 #[.string s] w fun e w' => e = .returned (.string (trim s)) ∧ Below w.heap.size w w' := by
  have TR := Tryz.strings_Trim_laid s ⟨#[32, 9]⟩ w (by omega) (by decide) (ascii_of_all (by decide))
  have TR2 : Calls Tryz.prog 139 #[.string s, .string ⟨#[32, 9]⟩] w fun e w' => e = .returned (.string (trim s)) ∧ Below w.heap.size w w' := TR
  have hts := trim_size s
  clear TR
  generalize trim s = t at *
  go_enter Tryz.func117, Tryz.ntmps117
  go_wp2_with fail
  refine TR2.mono ?_
  rintro e w1 ⟨rfl, hb1⟩
  go_wp2_with fail
  refine (clone_any t w1 (by omega)).mono ?_
  rintro e w2 ⟨rfl, hb2⟩
  have hb := hb1.trans (hb2.mono hb1.size)
  clear TR2 hb1 hb2
  go_wp2
  go_ret
  exact ⟨rfl, hb⟩
end Go.Proofs.YtlidgjkipbijlaaGreatDoor.lin
end
