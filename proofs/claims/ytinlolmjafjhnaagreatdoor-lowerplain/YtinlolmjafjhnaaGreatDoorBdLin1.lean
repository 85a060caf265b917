/- Texts that the proof leans on, one behind the other. -/
import Derived.RangeFuncNested
import Derived.RangeFuncBound
import Derived.RangeFuncLeaves
import Derived.Test.YtinlolmjafjhnaaGreatDoorProg
import Derived.WalkKit
import Derived.WalkSpells
import Derived.WalkLawsBesides
import Derived.Laws.RangeAny
import Derived.Laws.BitsLemmas
import Derived.Lib.IndexLaws

section
/- A range over an iterator that keeps state of its own in a cell: a law for such a statement, at the wide fence. -/
namespace Go.Proofs.YtinlolmjafjhnaaGreatDoor.lin
open Go.RowKit

/-- Of the blocks that lay in A, those alone may have turned of which D speaks. -/
structure Turns (D : Nat → Prop) (A B : World) : Prop where
 os : B.os = A.os
 tape : B.tape = A.tape
 output : B.output = A.output
 size : A.heap.size ≤ B.heap.size
 block : ∀ k, k < A.heap.size → ¬ D k → B.heap[k]? = A.heap[k]?

theorem Turns.refl (D : Nat → Prop) (A : World) : Turns D A A := ⟨rfl, rfl, rfl, Nat.le_refl _, fun _ _ _ => rfl⟩
theorem Turns.trans {D : Nat → Prop} {A B C : World} (h : Turns D A B) (k : Turns D B C) : Turns D A C :=
 ⟨k.os.trans h.os, k.tape.trans h.tape, k.output.trans h.output, Nat.le_trans h.size k.size, fun i hi hd => (k.block i (Nat.lt_of_lt_of_le hi h.size) hd).trans (h.block i hi hd)⟩
theorem Turns.mono {D E : Nat → Prop} {A B : World} (h : Turns D A B) (hd : ∀ k, D k → E k) : Turns E A B := ⟨h.os, h.tape, h.output, h.size, fun k hk he => h.block k hk (fun d => he (hd k d))⟩
theorem Turns.of_grown {D : Nat → Prop} {A B : World} {row : Option Nat} (h : A.grownBy B row) (hr : ∀ k, row = some k → D k) : Turns D A B :=
 ⟨h.os, h.tape, h.output, h.size, fun k hk hd => h.block k hk (fun e => hd (hr k e.symm))⟩
theorem Turns.of_below {D : Nat → Prop} {A B : World} (h : Below A.heap.size A B) : Turns D A B := ⟨h.os, h.tape, h.output, h.size, fun k hk _ => h.block k hk⟩
theorem Turns.alloc {D : Nat → Prop} {A B : World} (h : Turns D A B) (o : Obj) : Turns D A (B.alloc o) := h.trans (.of_grown (World.grownBy_alloc B o none) (fun _ e => by cases e))
theorem Turns.drew {D : Nat → Prop} {A B : World} (h : Turns D A B) : Turns D A B.drew := ⟨h.os, h.tape, h.output, h.size, h.block⟩
theorem Turns.put {D : Nat → Prop} {A B : World} (h : Turns D A B) (k : Nat) (o : Obj) (hd : D k) : Turns D A (B.putObj k o) := h.trans (.of_grown (grownBy_putObj' B k o) (fun _ e => by cases e; exact hd))
theorem Turns.set {D : Nat → Prop} {A B : World} (h : Turns D A B) (k : Nat) (v : Value) (hd : D k) : Turns D A (B.setCell ⟨k, 0, none⟩ v) := h.trans (.of_grown (grownBy_setCell' B k v) (fun _ e => by cases e; exact hd))
theorem Turns.boxed {D : Nat → Prop} {A B : World} (h : Turns D A B) {k : Nat} {t : TypeId} {v : Value} (hb : Boxed A k t v) (hd : ¬ D k) : Boxed B k t v := (h.block k hb.lt hd).trans hb
theorem Turns.below {D : Nat → Prop} {A B : World} (h : Turns D A B) {n : Nat} (hn : n ≤ A.heap.size) (hd : ∀ k, D k → n ≤ k) : Below n A B := ⟨h.os, h.tape, h.output, h.size, fun k hk => h.block k (by omega) (fun d => by have := hd k d; omega)⟩
theorem Turns.own {D : Nat → Prop} {A B : World} (h : Turns D A B) {base e size n : Nat} {v : Value} {xs : List Value} (ho : A.ownsRow base e size v n xs) (hd : ∀ k, v.ownBlock = some k → ¬ D k) : B.ownsRow base e size v n xs := by
 refine ⟨ho.1, ?_⟩
 rcases ho.2 with hn | ⟨g, cap, cur, rfl, hg, hgg, rest⟩
 ·exact .inl hn
 ·exact .inr ⟨g, cap, cur, rfl, hg, (h.block g (Array.getElem?_eq_some_iff.1 hgg).1 (hd g rfl)).trans hgg, rest⟩

/-- The blocks from lo to hi lie as they lay. -/
def Keep (lo hi : Nat) (A B : World) : Prop := ∀ k, lo ≤ k → k < hi → B.heap[k]? = A.heap[k]?
theorem Turns.keep {D : Nat → Prop} {A B : World} (h : Turns D A B) {lo hi : Nat} (hh : hi ≤ A.heap.size) (hd : ∀ k, D k → k < lo ∨ hi ≤ k) : Keep lo hi A B :=
 fun k h1 h2 => h.block k (by omega) (fun d => by have := hd k d; omega)

/-- The contract of an iterator whose elements are xs, and which stores into block c alone; it wants the blocks from lo to hi as they lay. -/
def Gives {α : Type} (n : Nat) (P : Program) (g : Nat) (lb : Array Value) (encs : α → Array Value) (xs : List α) (c lo hi : Nat) (w : World) : Prop :=
 ∀ (l : Nat) (J Jx : List α → World → Prop) (W : World), Below w.heap.size w W → (∀ s A B, J s A → A.grownBy B (some c) → J s B) →
  (∀ pre x rest W1, xs = pre ++ x :: rest → J pre W1 → YieldAt Fence.wide (n - 1) P l (encs x) W1 fun e W' =>
   (e = .returned (.bool true) ∧ J (pre ++ [x]) W' ∧ Keep lo hi W1 W') ∨ (e = .returned (.bool false) ∧ Jx (pre ++ [x]) W')) →
  J [] W →
  CallsIn Fence.wide n P g (#[.func (.yield l) #[] #[]] ++ lb) W fun e W' => (∃ v, e = .returned v) ∧ (J xs W' ∨ ∃ pre, Jx pre W')

/-- How a round's body may be left: it goes on, or it returns. -/
def roundEnd {α : Type} (lo hi : Nat) (I Ix : List α → World → Prop) (xs : List α) (W : World) : Exit → Act → World → Prop
 | .normal, _, W' => Keep lo hi W W' ∧ I xs W'
 | .ret, _, W' => Keep lo hi W W' ∧ Ix xs W'
 | _, _, _ => False

theorem range_own {α : Type} {n : Nat} {P : Program} {g : Operand} {ps : Array Tmp} {assign body : Code} {Q : Exit → Act → World → Prop} {a : Act} {w : World} {gf : Nat} {lb : Array Value}
  (hg : a.eval g = .func (.func gf) #[] lb) (eg : ∀ args w, (callFunc gf args).run P w = .ok (.enter gf args) w)
  {encs : α → Array Value} {xs : List α} {c lo : Nat} (hc : c < w.heap.size) (hlo : lo ≤ w.heap.size) (hseq : Gives (n - 1) P gf lb encs xs c lo w.heap.size w) (hps : ∀ x, (encs x).size = ps.size)
  (I Ix : List α → World → Prop) (hI : ∀ s A B, I s A → Turns (fun k => k = c ∨ k = w.heap.size ∨ k = w.heap.size + 1) A B → I s B) (hIx : ∀ s A B, Ix s A → Turns (fun k => k = c ∨ k = w.heap.size ∨ k = w.heap.size + 1) A B → Ix s B)
  (h0 : I [] w) (a₁ : α → Act)
  (hassign : ∀ (l : Nat) (x : α) (W : World) (K : Act → World → Prop), K (a₁ x) W →
   assign.wpIn (Fence.wide.inRound l) (n - 1 - 1) P (Exit.then K (fun _ _ _ => False)) { tmps := (ps.zip (encs x)).foldl (fun t (p, v) => t.setIfInBounds p v) a.tmps, defers := [] } W)
  (hbody : ∀ (l : Nat) (pre : List α) (x : α) (rest : List α) (W : World), xs = pre ++ x :: rest → I pre W → w.heap.size + 2 ≤ W.heap.size → body.wpIn (Fence.wide.inRound l) (n - 1 - 1) P (roundEnd lo (w.heap.size + 2) I Ix (pre ++ [x]) W) (a₁ x) W)
  (hdone : ∀ (W : World), I xs W → W.heap[w.heap.size]? = some (.deferred (some [])) → Q .normal { a with defers := { target := .collected w.heap.size, args := #[] } :: a.defers } W)
  (hstop : ∀ (pre : List α) (W : World), Ix pre W → W.heap[w.heap.size]? = some (.deferred (some [])) → Code.ret.wpIn Fence.wide n P Q { a with defers := { target := .collected w.heap.size, args := #[] } :: a.defers } W) :
  (Code.rangeFunc g ps assign body).wpIn Fence.wide n P Q a w := by
 refine wpIn_rangeFunc fun fn hfn => ?_
 let rec_ : LoopState → Option Code → Loop := fun st pe => { state := st, pending := pe, fn, tmps := a.tmps, params := ps, assign, body, defers := w.heap.size }
 have hIr : ∀ s A (o : Obj), I s A → I s (A.putObj (w.heap.size + 1) o) := fun s A o hs => hI s A _ hs ((Turns.refl _ A).put _ o (.inr (.inr rfl)))
 have hIxr : ∀ s A (o : Obj), Ix s A → Ix s (A.putObj (w.heap.size + 1) o) := fun s A o hs => hIx s A _ hs ((Turns.refl _ A).put _ o (.inr (.inr rfl)))
 refine ⟨w.heap.size + 1, [{ target := .collected w.heap.size, args := #[] }], (w.alloc (.deferred (some []))).alloc (.loop (rec_ .ready none)), { target := .fn (.func gf) lb, args := #[.func (.yield (w.heap.size + 1)) #[] #[]] }, (w.alloc (.deferred (some []))).alloc (.loop (rec_ .ready none)), gf,
  #[.func (.yield (w.heap.size + 1)) #[] #[]] ++ lb, (w.alloc (.deferred (some []))).alloc (.loop (rec_ .ready none)), run_enterLoop_outer _ _ _ _ _, ?_, fun _ _ => trivial, ?_, fun h => by simp [Fence.wide] at h, ?_⟩
 ·simp only [resolve, hg]
  simp [go_sem]
 ·simp [invoke, go_sem, eg]
 have hK1 : ((w.alloc (.deferred (some []))).alloc (.loop (rec_ .ready none))).heap[w.heap.size]? = some (.deferred (some [])) := (Below.heap_alloc _ _ _ (by simp)).trans (World.alloc_heap_new w _)
 have hL1 : ((w.alloc (.deferred (some []))).alloc (.loop (rec_ .ready none))).heap[w.heap.size + 1]? = some (.loop (rec_ .ready none)) := by
  have := World.alloc_heap_new (w.alloc (.deferred (some []))) (.loop (rec_ .ready none)); rwa [World.size_alloc] at this
 have hI1 : I [] ((w.alloc (.deferred (some []))).alloc (.loop (rec_ .ready none))) := hI _ _ _ h0 (((Turns.refl _ w).alloc _).alloc _)
 have hb1 : Below w.heap.size w ((w.alloc (.deferred (some []))).alloc (.loop (rec_ .ready none))) := ((Below.refl _ w).alloc (Nat.le_refl _) _).alloc (by simp) _
 have kept : ∀ (A B : World) (k : Nat) (o : Obj), A.grownBy B (some c) → w.heap.size ≤ k → A.heap[k]? = some o → B.heap[k]? = some o := fun A B k o hgr hk ho =>
  (hgr.block k (Array.getElem?_eq_some_iff.1 ho).1 (fun e => by cases e; omega)).trans ho
 refine (hseq (w.heap.size + 1)
  (fun pre W => I pre W ∧ W.heap[w.heap.size + 1]? = some (.loop (rec_ .ready none)) ∧ W.heap[w.heap.size]? = some (.deferred (some [])))
  (fun pre W => Ix pre W ∧ W.heap[w.heap.size + 1]? = some (.loop (rec_ .done (some .ret))) ∧ W.heap[w.heap.size]? = some (.deferred (some [])))
  _ hb1 (fun s A B hs hgr => ⟨hI s A B hs.1 (.of_grown hgr (fun k e => by cases e; exact .inl rfl)), kept A B _ _ hgr (by omega) hs.2.1, kept A B _ _ hgr (Nat.le_refl _) hs.2.2⟩) ?_ ⟨hI1, hL1, hK1⟩).mono ?_
 ·rintro pre x rest W hx ⟨hi, hl, hk⟩
  have hlt : w.heap.size + 1 < W.heap.size := (Array.getElem?_eq_some_iff.1 hl).1
  refine ⟨fn, _, assign, body, run_yield (P := P) (args := encs x) hl (hps x), roundIn_of_wpIn hfn (hassign _ x W _ ?_)⟩
  refine ⟨_, run_beginRound hl rfl, ?_⟩
  have hl2 : (W.putObj (w.heap.size + 1) (.loop { rec_ .ready none with state := .busy })).heap[w.heap.size + 1]? = some (.loop { rec_ .ready none with state := .busy }) := World.putObj_heap_same hlt
  have hk2 : (W.putObj (w.heap.size + 1) (.loop { rec_ .ready none with state := .busy })).heap[w.heap.size]? = some (.deferred (some [])) := (World.putObj_heap_other (by omega)).trans hk
  refine wpIn_mono (hbody _ pre x rest _ hx (hIr _ _ _ hi) (by simp; omega)) ?_
  rintro e a3 W3 hp
  cases e with
  | normal =>
   obtain ⟨hk3, hi3⟩ := hp
   have hl3 := (hk3 (w.heap.size + 1) (by omega) (by omega)).trans hl2
   refine ⟨_, _, run_endRound (P := P) none hl3, .inl ⟨rfl, ⟨hIr _ _ _ hi3, World.putObj_heap_same (Array.getElem?_eq_some_iff.1 hl3).1, (World.putObj_heap_other (by omega)).trans ((hk3 w.heap.size hlo (by omega)).trans hk2)⟩, ?_⟩⟩
   intro k h1 h2
   rw [World.putObj_heap_other (by omega), hk3 k h1 (by omega), World.putObj_heap_other (by omega)]
  | ret =>
   obtain ⟨hk3, hi3⟩ := hp
   have hl3 := (hk3 (w.heap.size + 1) (by omega) (by omega)).trans hl2
   exact ⟨_, _, run_endRound (P := P) (some .ret) hl3, .inr ⟨rfl, hIxr _ _ _ hi3, World.putObj_heap_same (Array.getElem?_eq_some_iff.1 hl3).1, (World.putObj_heap_other (by omega)).trans ((hk3 w.heap.size hlo (by omega)).trans hk2)⟩⟩
  | exit id => exact hp.elim
  | goto t => exact hp.elim
  | panic ch => exact hp.elim
  | outgrown => exact hp.elim
 ·rintro e W2 ⟨⟨v, rfl⟩, (⟨hi, hl, hk⟩ | ⟨pre, hi, hl, hk⟩)⟩
  ·exact ⟨none, _, run_endLoop (P := P) hl (by simp [rec_]), hdone _ (hIr _ _ _ hi) ((World.putObj_heap_other (by omega)).trans hk)⟩
  ·exact ⟨some .ret, _, run_endLoop (P := P) hl (by simp [rec_]), hstop pre _ (hIxr _ _ _ hi) ((World.putObj_heap_other (by omega)).trans hk)⟩
end Go.Proofs.YtinlolmjafjhnaaGreatDoor.lin
end

section
/- What lines.digitOf, lines.Hex and the document's Hex answer of any string: the same number, or none. -/
set_option linter.unusedVariables false
set_option linter.unusedSimpArgs false
namespace Go.Proofs.YtinlolmjafjhnaaGreatDoor.lin
open Go.RowKit

theorem ret_ib {k : IntKind} {a b : Int} {c d : Bool} (h : a = b) (h' : c = d) : Ending.returned (.tuple #[.int k a, .bool c]) = .returned (.tuple #[.int k b, .bool d]) := by rw [h, h']

/-- A digit's value; whether a code point is a digit. -/
def dv (c : Int) : Int := if 48 ≤ c ∧ c ≤ 57 then c - 48 else if 65 ≤ c ∧ c ≤ 70 then c - 55 else if 97 ≤ c ∧ c ≤ 102 then c - 87 else 0
def dok (c : Int) : Bool := decide (48 ≤ c ∧ c ≤ 57) || decide (65 ≤ c ∧ c ≤ 70) || decide (97 ≤ c ∧ c ≤ 102)
theorem dv_le (c : Int) : 0 ≤ dv c ∧ dv c ≤ 15 := by unfold dv; (repeat' split) <;> omega
theorem dok_iff (c : Int) : dok c = true ↔ (48 ≤ c ∧ c ≤ 57) ∨ (65 ≤ c ∧ c ≤ 70) ∨ (97 ≤ c ∧ c ≤ 102) := by unfold dok; simp [or_assoc]

theorem digit_any (c : Int) (w : World) (h0 : 0 ≤ c) (h1 : c ≤ 2147483647) :
  Calls Tryz.prog 125 #[.int .i32 c] w fun e w' => e = .returned (.tuple #[.int .i64 (dv c), .bool (dok c)]) ∧ w' = w := by
 go_enter Tryz.func125, Tryz.ntmps125
 go_wp2
 all_goals go_ret2
 all_goals exact ⟨ret_ib (by unfold dv; (repeat' split) <;> omega) (by unfold dok; simp; omega), rfl⟩

/-- The byte at a place of a string. -/
def at8 (s : ByteArray) (p : Nat) : Int := if h : p < s.size then ((s[p]'h).toNat : Int) else 0
theorem at8_eq (s : ByteArray) (p : Nat) (h : p < s.size) : at8 s p = ((s[p]'h).toNat : Int) := by simp [at8, h]
/-- The number of so many digits from a place on, behind a number. -/
def hx (s : ByteArray) : Nat → Nat → Int → Option Int
 | 0, _, v => some v
 | k + 1, p, v => if dok (at8 s p) then hx s k (p + 1) (v * 16 + dv (at8 s p)) else none
/-- The code point of a string of four to six digits. -/
def hexV (s : ByteArray) : Option Int := if s.size < 4 ∨ 6 < s.size then none else (hx s s.size 0 0).bind fun n => if 1114111 < n then none else some n
def hexN (s : ByteArray) : Int := (hexV s).getD 0
def hexB (s : ByteArray) : Bool := (hexV s).isSome

theorem hx_go (s : ByteArray) (k p : Nat) (v : Int) (hk : k ≠ 0) (h : dok (at8 s p) = true) : hx s k p v = hx s (k - 1) (p + 1) (v * 16 + dv (at8 s p)) := by
 cases k with
 | zero => omega
 | succ k => rw [hx, if_pos h]; rfl
theorem hx_no (s : ByteArray) (k p : Nat) (v : Int) (hk : k ≠ 0) (h : dok (at8 s p) = false) : hx s k p v = none := by
 cases k with
 | zero => omega
 | succ k => rw [hx, if_neg (by simp [h])]

/-- How great the number of so many digits may be. -/
def Lim (p : Nat) (v : Int) : Prop := 0 ≤ v ∧ (p = 0 → v ≤ 0) ∧ (p = 1 → v ≤ 15) ∧ (p = 2 → v ≤ 255) ∧ (p = 3 → v ≤ 4095) ∧ (p = 4 → v ≤ 65535) ∧ (p = 5 → v ≤ 1048575) ∧ (p = 6 → v ≤ 16777215)
theorem Lim.step {p : Nat} {v d : Int} (h : Lim p v) (hp : p < 6) (h0 : 0 ≤ d) (h1 : d ≤ 15) : Lim (p + 1) (v * 16 + d) := by unfold Lim at *; omega
theorem Lim.le {p : Nat} {v : Int} (h : Lim p v) (hp : p ≤ 6) : 0 ≤ v ∧ v ≤ 16777215 := by unfold Lim at h; omega

theorem or_digit (v d : Int) (h0 : 0 ≤ v) (h1 : v ≤ 16777215) (hd : 0 ≤ d) (hd1 : d ≤ 15) : bits BinOp.or IntKind.i64 (v * 16) d = v * 16 + d :=
 bits_join .i64 63 (by decide) (fun n a b => by rw [IntKind.wrap_i64]; omega) 4 _ _ (by omega) (by omega) (by omega) (by omega) (by omega) (by omega)

theorem hexV_short (s : ByteArray) (h : s.size < 4 ∨ 6 < s.size) : hexV s = none := by unfold hexV; rw [if_pos h]
theorem hexV_none (s : ByteArray) (h : hx s s.size 0 0 = none) : hexV s = none := by
 unfold hexV; split
 ·rfl
 ·rw [h]; rfl
theorem hexV_big (s : ByteArray) (v : Int) (h : hx s s.size 0 0 = some v) (hv : 1114111 < v) : hexV s = none := by
 unfold hexV; split
 ·rfl
 ·rw [h]; simp [hv]
theorem hexV_some (s : ByteArray) (v : Int) (h : hx s s.size 0 0 = some v) (hs : 4 ≤ s.size ∧ s.size ≤ 6) (hv : v ≤ 1114111) : hexV s = some v := by
 unfold hexV; rw [if_neg (by omega), h]; simp; omega
theorem hex_none {s : ByteArray} (h : hexV s = none) : hexN s = 0 ∧ hexB s = false := by unfold hexN hexB; rw [h]; exact ⟨rfl, rfl⟩
theorem hex_some {s : ByteArray} {v : Int} (h : hexV s = some v) : hexN s = v ∧ hexB s = true := by unfold hexN hexB; rw [h]; exact ⟨rfl, rfl⟩

end Go.Proofs.YtinlolmjafjhnaaGreatDoor.lin
end

section
/- A string's parts between a byte, as plain lists. -/
set_option linter.unusedVariables false
set_option linter.unusedSimpArgs false
namespace Go.Proofs.YtinlolmjafjhnaaGreatDoor.lin
open Go.RowKit

/-- The parts of s from a on between bytes b: p is looked at, k bytes are left. -/
def cuts (s : ByteArray) (b : Int) : Nat → Nat → Nat → List ByteArray
 | 0, _, a => [s.extract a s.size]
 | k + 1, p, a => if at8 s p = b then s.extract a p :: cuts s b k (p + 1) (p + 1) else cuts s b k (p + 1) a
/-- A string's parts between a byte. -/
def cutV (s : ByteArray) (b : Int) : List ByteArray := cuts s b s.size 0 0

theorem cuts_hit (s : ByteArray) (b : Int) (k p a : Nat) (hk : k ≠ 0) (h : at8 s p = b) : cuts s b k p a = s.extract a p :: cuts s b (k - 1) (p + 1) (p + 1) := by
 cases k with
 | zero => omega
 | succ k => rw [cuts, if_pos h]; rfl
theorem cuts_not (s : ByteArray) (b : Int) (k p a : Nat) (hk : k ≠ 0) (h : at8 s p ≠ b) : cuts s b k p a = cuts s b (k - 1) (p + 1) a := by
 cases k with
 | zero => omega
 | succ k => rw [cuts, if_neg h]; rfl
theorem cuts_skip (s : ByteArray) (b : Int) : ∀ q p a, p + q ≤ s.size → (∀ j, p ≤ j → j < p + q → at8 s j ≠ b) → cuts s b (s.size - p) p a = cuts s b (s.size - (p + q)) (p + q) a := by
 intro q
 induction q with
 | zero => intro p a _ _; rfl
 | succ q ih =>
  intro p a hp h
  rw [cuts_not s b (s.size - p) p a (by omega) (h p (Nat.le_refl _) (by omega)), show s.size - p - 1 = s.size - (p + 1) from by omega, ih (p + 1) a (by omega) (fun j h1 h2 => h j (by omega) (by omega)), show p + 1 + q = p + (q + 1) from by omega]

theorem ext_get (s : ByteArray) (a k : Nat) : (s.extract a s.size).data.toList[k]? = if h : a + k < s.size then some (s[a + k]'h) else none := by
 rw [ByteArray.data_extract, Array.getElem?_toList]
 show (s.data.extract a s.data.size)[k]? = _
 rw [Array.getElem?_extract]
 split
 ·rename_i h
  have hz : s.data.size = s.size := rfl
  have h' : a + k < s.size := by simp at h; omega
  rw [dif_pos h']
  exact Array.getElem?_eq_getElem h'
 ·rename_i h
  rw [dif_neg]
  intro h'
  apply h
  have : a + k < s.data.size := h'
  simp; omega

theorem rest_none (s : ByteArray) (a : Nat) (ha : a ≤ s.size) (h : Lib.indexByte (s.extract a s.size).data.toList 10 = -1) : cuts s 10 (s.size - a) a a = [s.extract a s.size] := by
 have hn := Lib.indexByte_none h
 rw [cuts_skip s 10 (s.size - a) a a (by omega) ?_, show s.size - (a + (s.size - a)) = 0 from by omega]
 ·rfl
 ·intro j h1 h2
  have hj : j < s.size := by omega
  have := hn (j - a)
  rw [ext_get, dif_pos (by omega : a + (j - a) < s.size)] at this
  rw [at8_eq s j hj]
  intro e
  apply this
  congr 1
  simp only [show a + (j - a) = j from by omega]
  apply UInt8.toNat_inj.1
  show _ = 10
  omega

theorem rest_some (s : ByteArray) (a o : Nat) (ha : a ≤ s.size) (h : Lib.indexByte (s.extract a s.size).data.toList 10 = o) :
  a + o < s.size ∧ cuts s 10 (s.size - a) a a = s.extract a (a + o) :: cuts s 10 (s.size - (a + o + 1)) (a + o + 1) (a + o + 1) := by
 obtain ⟨h1, h2⟩ := Lib.indexByte_some h
 have hlt : a + o < s.size := by
  rw [ext_get] at h1
  split at h1
  ·assumption
  ·cases h1
 refine ⟨hlt, ?_⟩
 rw [cuts_skip s 10 o a a (by omega) ?_, cuts_hit s 10 (s.size - (a + o)) (a + o) a (by omega) ?_, show s.size - (a + o) - 1 = s.size - (a + o + 1) from by omega]
 ·rw [ext_get, dif_pos hlt] at h1
  rw [at8_eq s _ hlt, Option.some.inj h1]; rfl
 ·intro j hj1 hj2
  have := h2 (j - a) (by omega)
  have hj : j < s.size := by omega
  rw [ext_get, dif_pos (by omega : a + (j - a) < s.size)] at this
  rw [at8_eq s j hj]
  intro e
  apply this
  congr 1
  simp only [show a + (j - a) = j from by omega]
  apply UInt8.toNat_inj.1
  show _ = 10
  omega

theorem ext_ext (s : ByteArray) (a i j : Nat) (ha : a ≤ s.size) : (s.extract a s.size).extract i j = s.extract (a + i) (min (a + j) s.size) := by
 rw [ByteArray.extract_extract]
theorem ext_first (s : ByteArray) (a o : Nat) (h : a + o ≤ s.size) : (s.extract a s.size).extract 0 o = s.extract a (a + o) := by
 rw [ext_ext s a 0 o (by omega), Nat.add_zero, Nat.min_eq_left h]
theorem ext_last (s : ByteArray) (a o : Nat) (ha : a ≤ s.size) : (s.extract a s.size).extract o (s.extract a s.size).size = s.extract (a + o) s.size := by
 rw [ext_ext s a o _ ha, ByteArray.size_extract]
 congr 1
 omega
end Go.Proofs.YtinlolmjafjhnaaGreatDoor.lin
end
