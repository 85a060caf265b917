/- A range over an iterator that keeps state of its own in a cell: a law for such a statement, at the wide fence. -/
import Derived.RangeFuncNested
import Derived.RangeFuncBound
import Derived.RangeFuncLeaves
namespace Go.Proofs.YtnpnmhjhohhnjaaDoor.lin
open Go.RowKit

/-- Of the blocks that lay in A, those alone may have turned of which D speaks. -/
structure Turns (D : Nat → Prop) (A B : World) : Prop where
  os : B.os = A.os
  tape : B.tape = A.tape
  output : B.output = A.output
  size : A.heap.size ≤ B.heap.size
  block : ∀ k, k < A.heap.size → ¬ D k → B.heap[k]? = A.heap[k]?

theorem Turns.refl (D : Nat → Prop) (A : World) : Turns D A A := ⟨rfl, rfl, rfl, Nat.le_refl _, fun _ _ _ => rfl⟩
theorem Turns.trans {D : Nat → Prop} {A B C : World} (h : Turns D A B) (k : Turns D B C) : Turns D A C :=
  ⟨k.os.trans h.os, k.tape.trans h.tape, k.output.trans h.output, Nat.le_trans h.size k.size, fun i hi hd => (k.block i (Nat.lt_of_lt_of_le hi h.size) hd).trans (h.block i hi hd)⟩
theorem Turns.mono {D E : Nat → Prop} {A B : World} (h : Turns D A B) (hd : ∀ k, D k → E k) : Turns E A B := ⟨h.os, h.tape, h.output, h.size, fun k hk he => h.block k hk (fun d => he (hd k d))⟩
theorem Turns.of_grown {D : Nat → Prop} {A B : World} {row : Option Nat} (h : A.grownBy B row) (hr : ∀ k, row = some k → D k) : Turns D A B :=
  ⟨h.os, h.tape, h.output, h.size, fun k hk hd => h.block k hk (fun e => hd (hr k e.symm))⟩
theorem Turns.of_below {D : Nat → Prop} {A B : World} (h : Below A.heap.size A B) : Turns D A B := ⟨h.os, h.tape, h.output, h.size, fun k hk _ => h.block k hk⟩
theorem Turns.alloc {D : Nat → Prop} {A B : World} (h : Turns D A B) (o : Obj) : Turns D A (B.alloc o) := h.trans (.of_grown (World.grownBy_alloc B o none) (fun _ e => by cases e))
theorem Turns.drew {D : Nat → Prop} {A B : World} (h : Turns D A B) : Turns D A B.drew := ⟨h.os, h.tape, h.output, h.size, h.block⟩
theorem Turns.put {D : Nat → Prop} {A B : World} (h : Turns D A B) (k : Nat) (o : Obj) (hd : D k) : Turns D A (B.putObj k o) := h.trans (.of_grown (grownBy_putObj' B k o) (fun _ e => by cases e; exact hd))
theorem Turns.set {D : Nat → Prop} {A B : World} (h : Turns D A B) (k : Nat) (v : Value) (hd : D k) : Turns D A (B.setCell ⟨k, 0, none⟩ v) := h.trans (.of_grown (grownBy_setCell' B k v) (fun _ e => by cases e; exact hd))
theorem Turns.boxed {D : Nat → Prop} {A B : World} (h : Turns D A B) {k : Nat} {t : TypeId} {v : Value} (hb : Boxed A k t v) (hd : ¬ D k) : Boxed B k t v := (h.block k hb.lt hd).trans hb
theorem Turns.below {D : Nat → Prop} {A B : World} (h : Turns D A B) {n : Nat} (hn : n ≤ A.heap.size) (hd : ∀ k, D k → n ≤ k) : Below n A B := ⟨h.os, h.tape, h.output, h.size, fun k hk => h.block k (by omega) (fun d => by have := hd k d; omega)⟩
theorem Turns.own {D : Nat → Prop} {A B : World} (h : Turns D A B) {base e size n : Nat} {v : Value} {xs : List Value} (ho : A.ownsRow base e size v n xs) (hd : ∀ k, v.ownBlock = some k → ¬ D k) : B.ownsRow base e size v n xs := by
  refine ⟨ho.1, ?_⟩
  rcases ho.2 with hn | ⟨g, cap, cur, rfl, hg, hgg, rest⟩
  · exact .inl hn
  · exact .inr ⟨g, cap, cur, rfl, hg, (h.block g (Array.getElem?_eq_some_iff.1 hgg).1 (hd g rfl)).trans hgg, rest⟩

/-- The blocks from lo to hi lie as they lay. -/
def Keep (lo hi : Nat) (A B : World) : Prop := ∀ k, lo ≤ k → k < hi → B.heap[k]? = A.heap[k]?
theorem Turns.keep {D : Nat → Prop} {A B : World} (h : Turns D A B) {lo hi : Nat} (hh : hi ≤ A.heap.size) (hd : ∀ k, D k → k < lo ∨ hi ≤ k) : Keep lo hi A B :=
  fun k h1 h2 => h.block k (by omega) (fun d => by have := hd k d; omega)

/-- The contract of an iterator whose elements are xs, and which stores into block c alone; it wants the blocks from lo to hi as they lay. -/
def Gives {α : Type} (n : Nat) (P : Program) (g : Nat) (lb : Array Value) (encs : α → Array Value) (xs : List α) (c lo hi : Nat) (w : World) : Prop :=
  ∀ (l : Nat) (J Jx : List α → World → Prop) (W : World), Below w.heap.size w W → (∀ s A B, J s A → A.grownBy B (some c) → J s B) →
    (∀ pre x rest W1, xs = pre ++ x :: rest → J pre W1 → YieldAt Fence.wide (n - 1) P l (encs x) W1 fun e W' =>
      (e = .returned (.bool true) ∧ J (pre ++ [x]) W' ∧ Keep lo hi W1 W') ∨ (e = .returned (.bool false) ∧ Jx (pre ++ [x]) W')) →
    J [] W →
    CallsIn Fence.wide n P g (#[.func (.yield l) #[] #[]] ++ lb) W fun e W' => (∃ v, e = .returned v) ∧ (J xs W' ∨ ∃ pre, Jx pre W')

/-- How a round's body may be left: it goes on, or it returns. -/
def roundEnd {α : Type} (lo hi : Nat) (I Ix : List α → World → Prop) (xs : List α) (W : World) : Exit → Act → World → Prop
  | .normal, _, W' => Keep lo hi W W' ∧ I xs W'
  | .ret, _, W' => Keep lo hi W W' ∧ Ix xs W'
  | _, _, _ => False

theorem range_own {α : Type} {n : Nat} {P : Program} {g : Operand} {ps : Array Tmp} {assign body : Code} {Q : Exit → Act → World → Prop} {a : Act} {w : World} {gf : Nat} {lb : Array Value}
    (hg : a.eval g = .func (.func gf) #[] lb) (eg : ∀ args w, (callFunc gf args).run P w = .ok (.enter gf args) w)
    {encs : α → Array Value} {xs : List α} {c lo : Nat} (hc : c < w.heap.size) (hlo : lo ≤ w.heap.size) (hseq : Gives (n - 1) P gf lb encs xs c lo w.heap.size w) (hps : ∀ x, (encs x).size = ps.size)
    (I Ix : List α → World → Prop) (hI : ∀ s A B, I s A → Turns (fun k => k = c ∨ k = w.heap.size ∨ k = w.heap.size + 1) A B → I s B) (hIx : ∀ s A B, Ix s A → Turns (fun k => k = c ∨ k = w.heap.size ∨ k = w.heap.size + 1) A B → Ix s B)
    (h0 : I [] w) (a₁ : α → Act)
    (hassign : ∀ (l : Nat) (x : α) (W : World) (K : Act → World → Prop), K (a₁ x) W →
      assign.wpIn (Fence.wide.inRound l) (n - 1 - 1) P (Exit.then K (fun _ _ _ => False)) { tmps := (ps.zip (encs x)).foldl (fun t (p, v) => t.setIfInBounds p v) a.tmps, defers := [] } W)
    (hbody : ∀ (l : Nat) (pre : List α) (x : α) (rest : List α) (W : World), xs = pre ++ x :: rest → I pre W → w.heap.size + 2 ≤ W.heap.size → body.wpIn (Fence.wide.inRound l) (n - 1 - 1) P (roundEnd lo (w.heap.size + 2) I Ix (pre ++ [x]) W) (a₁ x) W)
    (hdone : ∀ (W : World), I xs W → W.heap[w.heap.size]? = some (.deferred (some [])) → Q .normal { a with defers := { target := .collected w.heap.size, args := #[] } :: a.defers } W)
    (hstop : ∀ (pre : List α) (W : World), Ix pre W → W.heap[w.heap.size]? = some (.deferred (some [])) → Code.ret.wpIn Fence.wide n P Q { a with defers := { target := .collected w.heap.size, args := #[] } :: a.defers } W) :
    (Code.rangeFunc g ps assign body).wpIn Fence.wide n P Q a w := by
  refine wpIn_rangeFunc fun fn hfn => ?_
  let rec_ : LoopState → Option Code → Loop := fun st pe => { state := st, pending := pe, fn, tmps := a.tmps, params := ps, assign, body, defers := w.heap.size }
  have hIr : ∀ s A (o : Obj), I s A → I s (A.putObj (w.heap.size + 1) o) := fun s A o hs => hI s A _ hs ((Turns.refl _ A).put _ o (.inr (.inr rfl)))
  have hIxr : ∀ s A (o : Obj), Ix s A → Ix s (A.putObj (w.heap.size + 1) o) := fun s A o hs => hIx s A _ hs ((Turns.refl _ A).put _ o (.inr (.inr rfl)))
  refine ⟨w.heap.size + 1, [{ target := .collected w.heap.size, args := #[] }], (w.alloc (.deferred (some []))).alloc (.loop (rec_ .ready none)), { target := .fn (.func gf) lb, args := #[.func (.yield (w.heap.size + 1)) #[] #[]] }, (w.alloc (.deferred (some []))).alloc (.loop (rec_ .ready none)), gf,
    #[.func (.yield (w.heap.size + 1)) #[] #[]] ++ lb, (w.alloc (.deferred (some []))).alloc (.loop (rec_ .ready none)), run_enterLoop_outer _ _ _ _ _, ?_, fun _ _ => trivial, ?_, fun h => by simp [Fence.wide] at h, ?_⟩
  · simp only [resolve, hg]
    simp [go_sem]
  · simp [invoke, go_sem, eg]
  have hK1 : ((w.alloc (.deferred (some []))).alloc (.loop (rec_ .ready none))).heap[w.heap.size]? = some (.deferred (some [])) := (Below.heap_alloc _ _ _ (by simp)).trans (World.alloc_heap_new w _)
  have hL1 : ((w.alloc (.deferred (some []))).alloc (.loop (rec_ .ready none))).heap[w.heap.size + 1]? = some (.loop (rec_ .ready none)) := by
    have := World.alloc_heap_new (w.alloc (.deferred (some []))) (.loop (rec_ .ready none)); rwa [World.size_alloc] at this
  have hI1 : I [] ((w.alloc (.deferred (some []))).alloc (.loop (rec_ .ready none))) := hI _ _ _ h0 (((Turns.refl _ w).alloc _).alloc _)
  have hb1 : Below w.heap.size w ((w.alloc (.deferred (some []))).alloc (.loop (rec_ .ready none))) := ((Below.refl _ w).alloc (Nat.le_refl _) _).alloc (by simp) _
  have kept : ∀ (A B : World) (k : Nat) (o : Obj), A.grownBy B (some c) → w.heap.size ≤ k → A.heap[k]? = some o → B.heap[k]? = some o := fun A B k o hgr hk ho =>
    (hgr.block k (Array.getElem?_eq_some_iff.1 ho).1 (fun e => by cases e; omega)).trans ho
  refine (hseq (w.heap.size + 1)
    (fun pre W => I pre W ∧ W.heap[w.heap.size + 1]? = some (.loop (rec_ .ready none)) ∧ W.heap[w.heap.size]? = some (.deferred (some [])))
    (fun pre W => Ix pre W ∧ W.heap[w.heap.size + 1]? = some (.loop (rec_ .done (some .ret))) ∧ W.heap[w.heap.size]? = some (.deferred (some [])))
    _ hb1 (fun s A B hs hgr => ⟨hI s A B hs.1 (.of_grown hgr (fun k e => by cases e; exact .inl rfl)), kept A B _ _ hgr (by omega) hs.2.1, kept A B _ _ hgr (Nat.le_refl _) hs.2.2⟩) ?_ ⟨hI1, hL1, hK1⟩).mono ?_
  · rintro pre x rest W hx ⟨hi, hl, hk⟩
    have hlt : w.heap.size + 1 < W.heap.size := (Array.getElem?_eq_some_iff.1 hl).1
    refine ⟨fn, _, assign, body, run_yield (P := P) (args := encs x) hl (hps x), roundIn_of_wpIn hfn (hassign _ x W _ ?_)⟩
    refine ⟨_, run_beginRound hl rfl, ?_⟩
    have hl2 : (W.putObj (w.heap.size + 1) (.loop { rec_ .ready none with state := .busy })).heap[w.heap.size + 1]? = some (.loop { rec_ .ready none with state := .busy }) := World.putObj_heap_same hlt
    have hk2 : (W.putObj (w.heap.size + 1) (.loop { rec_ .ready none with state := .busy })).heap[w.heap.size]? = some (.deferred (some [])) := (World.putObj_heap_other (by omega)).trans hk
    refine wpIn_mono (hbody _ pre x rest _ hx (hIr _ _ _ hi) (by simp; omega)) ?_
    rintro e a3 W3 hp
    cases e with
    | normal =>
      obtain ⟨hk3, hi3⟩ := hp
      have hl3 := (hk3 (w.heap.size + 1) (by omega) (by omega)).trans hl2
      refine ⟨_, _, run_endRound (P := P) none hl3, .inl ⟨rfl, ⟨hIr _ _ _ hi3, World.putObj_heap_same (Array.getElem?_eq_some_iff.1 hl3).1, (World.putObj_heap_other (by omega)).trans ((hk3 w.heap.size hlo (by omega)).trans hk2)⟩, ?_⟩⟩
      intro k h1 h2
      rw [World.putObj_heap_other (by omega), hk3 k h1 (by omega), World.putObj_heap_other (by omega)]
    | ret =>
      obtain ⟨hk3, hi3⟩ := hp
      have hl3 := (hk3 (w.heap.size + 1) (by omega) (by omega)).trans hl2
      exact ⟨_, _, run_endRound (P := P) (some .ret) hl3, .inr ⟨rfl, hIxr _ _ _ hi3, World.putObj_heap_same (Array.getElem?_eq_some_iff.1 hl3).1, (World.putObj_heap_other (by omega)).trans ((hk3 w.heap.size hlo (by omega)).trans hk2)⟩⟩
    | exit id => exact hp.elim
    | goto t => exact hp.elim
    | panic ch => exact hp.elim
    | outgrown => exact hp.elim
  · rintro e W2 ⟨⟨v, rfl⟩, (⟨hi, hl, hk⟩ | ⟨pre, hi, hl, hk⟩)⟩
    · exact ⟨none, _, run_endLoop (P := P) hl (by simp [rec_]), hdone _ (hIr _ _ _ hi) ((World.putObj_heap_other (by omega)).trans hk)⟩
    · exact ⟨some .ret, _, run_endLoop (P := P) hl (by simp [rec_]), hstop pre _ (hIxr _ _ _ hi) ((World.putObj_heap_other (by omega)).trans hk)⟩
end Go.Proofs.YtnpnmhjhohhnjaaDoor.lin
