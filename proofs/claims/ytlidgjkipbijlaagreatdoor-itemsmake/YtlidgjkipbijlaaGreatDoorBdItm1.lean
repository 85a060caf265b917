/- Texts that the proof leans on, one behind the other. -/
import Derived.Test.YtlidgjkipbijlaaGreatDoorBdLin1
import Derived.Test.YtlidgjkipbijlaaGreatDoorBdNrm1
import Derived.ScopeJumps
import Derived.WalkMore
import Derived.Test.YtlidgjkipbijlaaGreatDoorBdNrm2

section
/- A range over an iterator whose elements are kept in a variable of the round; slices.Backward over items. -/
set_option linter.unusedVariables false
set_option linter.unusedSimpArgs false
namespace Go.Proofs.YtlidgjkipbijlaaGreatDoor.itm
open Go.RowKit Go.Shelf lin nrm
attribute [local go_sem] Oper.semAt_some

/-- The blocks of which D speaks lie as they lay. -/
def KeepS (D : Nat → Prop) (A B : World) : Prop := ∀ k, D k → B.heap[k]? = A.heap[k]?
/-- The contract of an iterator whose elements are xs, and which stores into block c alone; it wants the blocks of which D speaks as they lay. -/
def GivesS {α : Type} (n : Nat) (P : Program) (g : Nat) (lb : Array Value) (encs : α → Array Value) (xs : List α) (c : Nat) (D : Nat → Prop) (w : World) : Prop :=
  ∀ (l : Nat) (J Jx : List α → World → Prop) (W : World), Below w.heap.size w W → (∀ s A B, J s A → A.grownBy B (some c) → J s B) →
    (∀ pre x rest W1, xs = pre ++ x :: rest → J pre W1 → YieldAt Fence.wide (n - 1) P l (encs x) W1 fun e W' =>
      (e = .returned (.bool true) ∧ J (pre ++ [x]) W' ∧ KeepS D W1 W') ∨ (e = .returned (.bool false) ∧ Jx (pre ++ [x]) W')) →
    J [] W →
    CallsIn Fence.wide n P g (#[.func (.yield l) #[] #[]] ++ lb) W fun e W' => (∃ v, e = .returned v) ∧ (J xs W' ∨ ∃ pre, Jx pre W')
/-- How a round's body may be left: it goes on, or it returns. -/
def roundEndS {α : Type} (D : Nat → Prop) (I Ix : List α → World → Prop) (xs : List α) (W : World) : Exit → Act → World → Prop
  | .normal, _, W' => KeepS D W W' ∧ I xs W'
  | .ret, _, W' => KeepS D W W' ∧ Ix xs W'
  | _, _, _ => False
theorem range_ownS {α : Type} {n : Nat} {P : Program} {g : Operand} {ps : Array Tmp} {assign body : Code} {Q : Exit → Act → World → Prop} {a : Act} {w : World} {gf : Nat} {lb : Array Value}
    (hg : a.eval g = .func (.func gf) #[] lb) (eg : ∀ args w, (callFunc gf args).run P w = .ok (.enter gf args) w)
    {encs : α → Array Value} {xs : List α} {c : Nat} {D : Nat → Prop} (hc : c < w.heap.size) (hD : ∀ k, D k → k < w.heap.size) (hseq : GivesS (n - 1) P gf lb encs xs c D w) (hps : ∀ x, (encs x).size = ps.size)
    (I Ix : List α → World → Prop) (hI : ∀ s A B, I s A → Turns (fun k => k = c ∨ k = w.heap.size ∨ k = w.heap.size + 1) A B → I s B) (hIx : ∀ s A B, Ix s A → Turns (fun k => k = c ∨ k = w.heap.size ∨ k = w.heap.size + 1) A B → Ix s B)
    (h0 : I [] w) (ob : α → Obj) (a₁ : α → Nat → Act)
    (hassign : ∀ (l : Nat) (x : α) (W : World) (K : Act → World → Prop), K (a₁ x W.heap.size) (W.alloc (ob x)) →
      assign.wpIn (Fence.wide.inRound l) (n - 1 - 1) P (Exit.then K (fun _ _ _ => False)) { tmps := (ps.zip (encs x)).foldl (fun t (p, v) => t.setIfInBounds p v) a.tmps, defers := [] } W)
    (hbody : ∀ (l : Nat) (pre : List α) (x : α) (rest : List α) (q : Nat) (W : World), xs = pre ++ x :: rest → I pre W → W.heap[q]? = some (ob x) → w.heap.size + 2 ≤ q → body.wpIn (Fence.wide.inRound l) (n - 1 - 1) P (roundEndS (fun k => D k ∨ k = w.heap.size ∨ k = w.heap.size + 1) I Ix (pre ++ [x]) W) (a₁ x q) W)
    (hdone : ∀ (W : World), I xs W → W.heap[w.heap.size]? = some (.deferred (some [])) → Q .normal { a with defers := { target := .collected w.heap.size, args := #[] } :: a.defers } W)
    (hstop : ∀ (pre : List α) (W : World), Ix pre W → W.heap[w.heap.size]? = some (.deferred (some [])) → Code.ret.wpIn Fence.wide n P Q { a with defers := { target := .collected w.heap.size, args := #[] } :: a.defers } W) :
    (Code.rangeFunc g ps assign body).wpIn Fence.wide n P Q a w := by
  refine wpIn_rangeFunc fun fn hfn => ?_
  let rec_ : LoopState → Option Code → Loop := fun st pe => { state := st, pending := pe, fn, tmps := a.tmps, params := ps, assign, body, defers := w.heap.size }
  have hIr : ∀ s A (o : Obj), I s A → I s (A.putObj (w.heap.size + 1) o) := fun s A o hs => hI s A _ hs ((Turns.refl _ A).put _ o (.inr (.inr rfl)))
  have hIxr : ∀ s A (o : Obj), Ix s A → Ix s (A.putObj (w.heap.size + 1) o) := fun s A o hs => hIx s A _ hs ((Turns.refl _ A).put _ o (.inr (.inr rfl)))
  refine ⟨w.heap.size + 1, [{ target := .collected w.heap.size, args := #[] }], (w.alloc (.deferred (some []))).alloc (.loop (rec_ .ready none)), { target := .fn (.func gf) lb, args := #[.func (.yield (w.heap.size + 1)) #[] #[]] }, (w.alloc (.deferred (some []))).alloc (.loop (rec_ .ready none)), gf,
    #[.func (.yield (w.heap.size + 1)) #[] #[]] ++ lb, (w.alloc (.deferred (some []))).alloc (.loop (rec_ .ready none)), run_enterLoop_outer _ _ _ _ _, ?_, fun _ _ => trivial, ?_, fun h => by simp [Fence.wide] at h, ?_⟩
  · simp only [resolve, hg]
    simp [go_sem]
  · simp [invoke, go_sem, eg]
  have hK1 : ((w.alloc (.deferred (some []))).alloc (.loop (rec_ .ready none))).heap[w.heap.size]? = some (.deferred (some [])) := (Below.heap_alloc _ _ _ (by simp)).trans (World.alloc_heap_new w _)
  have hL1 : ((w.alloc (.deferred (some []))).alloc (.loop (rec_ .ready none))).heap[w.heap.size + 1]? = some (.loop (rec_ .ready none)) := by
    have := World.alloc_heap_new (w.alloc (.deferred (some []))) (.loop (rec_ .ready none)); rwa [World.size_alloc] at this
  have hI1 : I [] ((w.alloc (.deferred (some []))).alloc (.loop (rec_ .ready none))) := hI _ _ _ h0 (((Turns.refl _ w).alloc _).alloc _)
  have hb1 : Below w.heap.size w ((w.alloc (.deferred (some []))).alloc (.loop (rec_ .ready none))) := ((Below.refl _ w).alloc (Nat.le_refl _) _).alloc (by simp) _
  have kept : ∀ (A B : World) (k : Nat) (o : Obj), A.grownBy B (some c) → w.heap.size ≤ k → A.heap[k]? = some o → B.heap[k]? = some o := fun A B k o hgr hk ho =>
    (hgr.block k (Array.getElem?_eq_some_iff.1 ho).1 (fun e => by cases e; omega)).trans ho
  refine (hseq (w.heap.size + 1)
    (fun pre W => I pre W ∧ W.heap[w.heap.size + 1]? = some (.loop (rec_ .ready none)) ∧ W.heap[w.heap.size]? = some (.deferred (some [])))
    (fun pre W => Ix pre W ∧ W.heap[w.heap.size + 1]? = some (.loop (rec_ .done (some .ret))) ∧ W.heap[w.heap.size]? = some (.deferred (some [])))
    _ hb1 (fun s A B hs hgr => ⟨hI s A B hs.1 (.of_grown hgr (fun k e => by cases e; exact .inl rfl)), kept A B _ _ hgr (by omega) hs.2.1, kept A B _ _ hgr (Nat.le_refl _) hs.2.2⟩) ?_ ⟨hI1, hL1, hK1⟩).mono ?_
  · rintro pre x rest W hx ⟨hi, hl, hk⟩
    have hlt : w.heap.size + 1 < W.heap.size := (Array.getElem?_eq_some_iff.1 hl).1
    refine ⟨fn, _, assign, body, run_yield (P := P) (args := encs x) hl (hps x), roundIn_of_wpIn hfn (hassign _ x W _ ?_)⟩
    have hla := (Below.heap_alloc W (ob x) _ hlt).trans hl
    have hka := (Below.heap_alloc W (ob x) _ (by omega : w.heap.size < W.heap.size)).trans hk
    have hia : I pre (W.alloc (ob x)) := hI _ _ _ hi ((Turns.refl _ W).alloc _)
    have hlta : w.heap.size + 1 < (W.alloc (ob x)).heap.size := by simp; omega
    refine ⟨_, run_beginRound hla rfl, ?_⟩
    have hl2 : ((W.alloc (ob x)).putObj (w.heap.size + 1) (.loop { rec_ .ready none with state := .busy })).heap[w.heap.size + 1]? = some (.loop { rec_ .ready none with state := .busy }) := World.putObj_heap_same hlta
    have hk2 : ((W.alloc (ob x)).putObj (w.heap.size + 1) (.loop { rec_ .ready none with state := .busy })).heap[w.heap.size]? = some (.deferred (some [])) := (World.putObj_heap_other (by omega)).trans hka
    have hq2 : ((W.alloc (ob x)).putObj (w.heap.size + 1) (.loop { rec_ .ready none with state := .busy })).heap[W.heap.size]? = some (ob x) := (World.putObj_heap_other (by omega)).trans (World.alloc_heap_new W _)
    refine wpIn_mono (hbody _ pre x rest W.heap.size _ hx (hIr _ _ _ hia) hq2 (by omega)) ?_
    rintro e a3 W3 hp
    cases e with
    | normal =>
      obtain ⟨hk3, hi3⟩ := hp
      have hl3 := (hk3 (w.heap.size + 1) (.inr (.inr rfl))).trans hl2
      refine ⟨_, _, run_endRound (P := P) none hl3, .inl ⟨rfl, ⟨hIr _ _ _ hi3, World.putObj_heap_same (Array.getElem?_eq_some_iff.1 hl3).1, (World.putObj_heap_other (by omega)).trans ((hk3 w.heap.size (.inr (.inl rfl))).trans hk2)⟩, ?_⟩⟩
      intro k h1
      have h2 := hD k h1
      rw [World.putObj_heap_other (by omega), hk3 k (.inl h1), World.putObj_heap_other (by omega), Below.heap_alloc W (ob x) _ (by omega)]
    | ret =>
      obtain ⟨hk3, hi3⟩ := hp
      have hl3 := (hk3 (w.heap.size + 1) (.inr (.inr rfl))).trans hl2
      exact ⟨_, _, run_endRound (P := P) (some .ret) hl3, .inr ⟨rfl, hIxr _ _ _ hi3, World.putObj_heap_same (Array.getElem?_eq_some_iff.1 hl3).1, (World.putObj_heap_other (by omega)).trans ((hk3 w.heap.size (.inr (.inl rfl))).trans hk2)⟩⟩
    | exit id => exact hp.elim
    | goto t => exact hp.elim
    | panic ch => exact hp.elim
    | outgrown => exact hp.elim
  · rintro e W2 ⟨⟨v, rfl⟩, (⟨hi, hl, hk⟩ | ⟨pre, hi, hl, hk⟩)⟩
    · exact ⟨none, _, run_endLoop (P := P) hl (by simp [rec_]), hdone _ (hIr _ _ _ hi) ((World.putObj_heap_other (by omega)).trans hk)⟩
    · exact ⟨some .ret, _, run_endLoop (P := P) hl (by simp [rec_]), hstop pre _ (hIxr _ _ _ hi) ((World.putObj_heap_other (by omega)).trans hk)⟩

abbrev Elt := Nat × nfd.I
def encB (x : Elt) : Array Value := #[.int .i64 (x.1 : Int), .agg #[.int .i64 x.2.1, .int .i64 x.2.2.1, .int .i64 x.2.2.2]]
/-- Items with their places, the last one first. -/
def backs (l : List nfd.I) : List Elt := (l.zipIdx.map fun p => (p.2, p.1)).reverse
theorem backs_snoc (l : List nfd.I) (v : nfd.I) : backs (l ++ [v]) = (l.length, v) :: backs l := by
  unfold backs
  rw [List.zipIdx_append]
  simp
theorem backs_take (l : List nfd.I) (k : Nat) (h : k < l.length) : backs (l.take (k + 1)) = (k, l[k]) :: backs (l.take k) := by
  rw [List.take_add_one, List.getElem?_eq_getElem h]
  show backs (l.take k ++ [l[k]]) = _
  rw [backs_snoc, List.length_take]
  congr 2
  omega
theorem backs_len (l : List nfd.I) : (backs l).length = l.length := by unfold backs; simp
theorem backs_at (l : List nfd.I) {pre rest : List Elt} {x : Elt} (h : backs l = pre ++ x :: rest) : x.1 + pre.length + 1 = l.length ∧ l[x.1]? = some x.2 := by
  have h1 : (backs l)[pre.length]? = some x := by rw [h]; simp
  have hl : pre.length < l.length := by
    have := congrArg List.length h
    rw [backs_len, List.length_append, List.length_cons] at this
    omega
  unfold backs at h1
  rw [List.getElem?_reverse (by simpa using hl)] at h1
  simp only [List.length_map, List.length_zipIdx, List.getElem?_map, List.getElem?_zipIdx] at h1
  have hj : l.length - 1 - pre.length < l.length := by omega
  rw [List.getElem?_eq_getElem hj] at h1
  simp at h1
  subst h1
  exact ⟨by simp; omega, by simp [List.getElem?_eq_getElem hj]⟩
/-- The block in which a slice's cells lie. -/
def blk : Value → Option Nat
  | .slice (some a) _ _ => some a.block
  | _ => none
theorem ivi_keep {A B : World} {v : Value} {l : List nfd.I} {D : Nat → Prop} (h : IVI A v l) (hk : KeepS D A B) (hD : ∀ k, blk v = some k → D k) : IVI B v l := by
  obtain ⟨a, c, rfl, hc⟩ := h
  refine ⟨a, c, rfl, fun h0 => ?_⟩
  obtain ⟨b, o, rfl, hx⟩ := hc h0
  have e : ∀ j, B.cell? ⟨b, j, none⟩ = A.cell? ⟨b, j, none⟩ := fun j => by
    unfold World.cell?
    rw [hk b (hD b rfl)]
  refine ⟨b, o, rfl, fun i p hi => ?_⟩
  rw [e, e, e]
  exact hx i p hi
theorem Backward_any (v : Value) (w : World) (hv : ∃ a n c, v = .slice a n c) :
    Calls Tryz.prog 73 #[v] w fun e w' => e = .returned (.func (.func 94) #[] #[.pointer (some ⟨w.heap.size, 0, none⟩)]) ∧ w' = w.alloc (.cells #[v] 28) := by
  obtain ⟨a, n, c, rfl⟩ := hv
  go_enter Tryz.func73, Tryz.ntmps73
  go_wp2
  go_ret
  exact ⟨rfl, rfl⟩
set_option maxHeartbeats 1000000 in
theorem back_gives (n c : Nat) (a : Option Addr) (cap : Nat) (vs : List nfd.I) (w : World) (hl : vs.length ≤ 1099511627776) (hbx : Boxed w c 28 (.slice a vs.length cap)) (hiv : IVI w (.slice a vs.length cap) vs) :
    GivesS n Tryz.prog 94 #[.pointer (some ⟨c, 0, none⟩)] encB (backs vs) c (fun k => k = c ∨ blk (.slice a vs.length cap) = some k) w := by
  intro l J Jx W hW hJ hY h0
  have hc := hbx.lt
  have hbW : Boxed W c 28 (.slice a vs.length cap) := (hW.block c hc).trans hbx
  have hiW : IVI W (.slice a vs.length cap) vs := hiv.below hW
  refine callsIn_of_wp Tryz.func94 rfl trivial ?_ rfl
  simp only [Tryz.ntmps94, List.size_toArray, List.length_cons, List.length_nil, Nat.reduceAdd, Nat.reduceSub, Array.replicate_succ, Array.replicate_zero, List.push_toArray, List.append_toArray, List.nil_append, List.cons_append]
  have c1 := hbW.cell
  have wl : IntKind.i64.wrap ((vs.length : Int) - 1) = (vs.length : Int) - 1 := by rw [IntKind.wrap_i64]; omega
  gi_wp2
  clear c1
  gi_loopg [3] vs.length (fun k v wr => ∃ (pre : List Elt), k ≤ vs.length ∧ v = .int .i64 ((k : Int) - 1) ∧ Hid (pre ++ backs (vs.take k) = backs vs) ∧ Hid (Boxed wr c 28 (.slice a vs.length cap)) ∧ Hid (IVI wr (.slice a vs.length cap) vs) ∧ J pre wr)
  case atStart => exact ⟨[], Nat.le_refl _, rfl, by rw [Hid, List.take_of_length_le (Nat.le_refl _)]; rfl, hbW, hiW, h0⟩
  case round =>
    obtain ⟨pre, hk, rfl, HX, HBX, HIV, hj⟩ := hrel
    cases gk with
    | zero =>
      have HE : pre = backs vs := by have := HX.out; simpa [backs] using this
      subst HE
      gi_wp2
      go_end0
      exact ⟨⟨_, rfl⟩, .inl hj⟩
    | succ k =>
      have hkl : k < vs.length := by omega
      have e0 : ((k + 1 : Nat) : Int) - 1 = (k : Int) := by omega
      have hkl' : (k : Int) < (vs.length : Int) := by omega
      have HX2 : backs vs = pre ++ (k, vs[k]) :: backs (vs.take k) := by rw [← HX.out, backs_take vs k hkl]
      obtain ⟨fn, tmps, assign, body, hy, hR⟩ := hY pre (k, vs[k]) _ wr HX2 hj
      have HX3 : Hid ((pre ++ [(k, vs[k])]) ++ backs (vs.take k) = backs vs) := by rw [Hid, HX2]; simp
      clear HX HX2
      have c1 := HBX.out.cell
      obtain ⟨ao', cc, ev, hcc⟩ := HIV.out
      injection ev with ev1 ev2 ev3
      subst ev1 ev3
      obtain ⟨b, o, rfl, hcells⟩ := hcc (by omega)
      obtain ⟨c2, c3, c4⟩ := hcells k _ (List.getElem?_eq_getElem hkl)
      have wk : IntKind.i64.wrap ((k : Int) - 1) = (k : Int) - 1 := by rw [IntKind.wrap_i64]; omega
      rw [e0]
      simp only [encB] at hy
      have HBX1 : Hid (Boxed wr c 28 (.slice (some ⟨b, o, none⟩) vs.length cap)) := HBX
      have HIV1 : Hid (IVI wr (.slice (some ⟨b, o, none⟩) vs.length cap) vs) := HIV
      clear hcells hcc HBX HIV ev2
      obtain ⟨⟨x1, x2, x3⟩, hxe⟩ : ∃ x, vs[k] = x := ⟨_, rfl⟩
      rw [hxe] at c2 c3 c4 hy HX3 hR
      simp only at c2 c3 c4 hy
      clear hxe
      gi_wp2
      refine ⟨wide_depth _, hR.mono ?_⟩
      rintro e W3 (⟨rfl, hJ3, hk3⟩ | ⟨rfl, hJx3⟩)
      · have hb3 : Hid (Boxed W3 c 28 (.slice (some ⟨b, o, none⟩) vs.length cap)) := (hk3 c (.inl rfl)).trans HBX1.out
        have hi3 : Hid (IVI W3 (.slice (some ⟨b, o, none⟩) vs.length cap) vs) := ivi_keep HIV1.out hk3 (fun j hj => .inr hj)
        gi_wp2
        gi_roundg k
        case measure => omega
        case rel => exact ⟨_, by omega, rfl, HX3, hb3, hi3, hJ3⟩
      · gi_wp2
        refine bodyPost_ret (results_none rfl _ _ _) rfl ?_
        exact ⟨⟨_, rfl⟩, .inr ⟨_, hJx3⟩⟩
end Go.Proofs.YtlidgjkipbijlaaGreatDoor.itm
end

section
/- Subjects, plainly: the least starts, spans, the place behind a byte. -/
set_option linter.unusedVariables false
set_option linter.unusedSimpArgs false
namespace Go.Proofs.YtlidgjkipbijlaaGreatDoor.itm
open Go.Proofs.YtlidgjkipbijlaaGreatDoor.nfd (I)

/-- The least start, and the end where there is none. -/
def lsH (e : Int) : List I → Int
  | [] => e
  | y :: r => min y.2.1 (lsH e r)
/-- Of each place the least start from there on. -/
def leastL (e : Int) : List I → List Int
  | [] => [e]
  | y :: r => min y.2.1 (lsH e r) :: leastL e r
theorem least_cons (e : Int) (y : I) (r : List I) : leastL e (y :: r) = lsH e (y :: r) :: leastL e r := rfl
theorem least_len (e : Int) (l : List I) : (leastL e l).length = l.length + 1 := by
  induction l with
  | nil => rfl
  | cons y r ih => rw [least_cons, List.length_cons, ih, List.length_cons]
theorem least_at (e : Int) : ∀ (l : List I) (k : Nat), k ≤ l.length → (leastL e l)[k]? = some (lsH e (l.drop k))
  | [], 0, _ => rfl
  | [], k + 1, h => absurd h (by simp)
  | y :: r, 0, _ => rfl
  | y :: r, k + 1, h => by
    rw [least_cons, List.getElem?_cons_succ, List.drop_succ_cons]
    exact least_at e r k (by simpa using h)
theorem ls_cons (e : Int) (y : I) (r : List I) : lsH e (y :: r) = min y.2.1 (lsH e r) := rfl
theorem ls_le (e : Int) (l : List I) : ∀ z ∈ leastL e l, lsH e l ≤ z := by
  induction l with
  | nil => intro z hz; rw [show leastL e [] = [e] from rfl, List.mem_singleton] at hz; rw [hz]; exact Int.le_refl _
  | cons y r ih =>
    intro z hz
    rw [least_cons, List.mem_cons] at hz
    rcases hz with hz | hz
    · rw [hz]; exact Int.le_refl _
    · have := ih z hz
      rw [ls_cons]
      omega
theorem least_sorted (e : Int) (l : List I) : (leastL e l).Pairwise (· ≤ ·) := by
  induction l with
  | nil => exact List.pairwise_singleton _ _
  | cons y r ih =>
    rw [least_cons, List.pairwise_cons]
    refine ⟨fun z hz => ?_, ih⟩
    have := ls_le e r z hz
    rw [ls_cons]
    omega
/-- The place behind the last item that begins below a byte. -/
def aft (at_ : Int) : List I → Nat
  | [] => 0
  | y :: r => if 0 < aft at_ r then aft at_ r + 1 else if y.2.1 < at_ then 1 else 0
theorem aft_le (at_ : Int) (l : List I) : aft at_ l ≤ l.length := by
  induction l with
  | nil => exact Nat.le_refl _
  | cons y r ih => unfold aft; rw [List.length_cons]; (repeat' split) <;> omega
theorem aft_pos {at_ : Int} {l : List I} : 0 < aft at_ l ↔ ∃ y ∈ l, y.2.1 < at_ := by
  induction l with
  | nil => simp [aft]
  | cons y r ih =>
    unfold aft
    by_cases h : 0 < aft at_ r
    · rw [if_pos h]
      obtain ⟨z, hz, hz2⟩ := ih.1 h
      exact ⟨fun _ => ⟨z, List.mem_cons_of_mem _ hz, hz2⟩, fun _ => by omega⟩
    · rw [if_neg h]
      by_cases hy : y.2.1 < at_
      · rw [if_pos hy]
        exact ⟨fun _ => ⟨y, List.mem_cons_self, hy⟩, fun _ => by omega⟩
      · rw [if_neg hy]
        refine ⟨fun h => absurd h (by omega), fun ⟨z, hz, hz2⟩ => ?_⟩
        rcases List.mem_cons.1 hz with rfl | hz
        · exact absurd hz2 hy
        · exact absurd (ih.2 ⟨z, hz, hz2⟩) h
theorem aft_snoc (at_ : Int) (l : List I) (y : I) : aft at_ (l ++ [y]) = if y.2.1 < at_ then l.length + 1 else aft at_ l := by
  induction l with
  | nil => rfl
  | cons x r ih =>
    rw [List.cons_append]
    show (if 0 < aft at_ (r ++ [y]) then aft at_ (r ++ [y]) + 1 else if x.2.1 < at_ then 1 else 0) = _
    rw [ih]
    by_cases hy : y.2.1 < at_
    · rw [if_pos hy, if_pos hy, if_pos (by omega)]; rfl
    · rw [if_neg hy, if_neg hy]; rfl
theorem ls_lt {e at_ : Int} {l : List I} (h : lsH e l < at_) : 0 < aft at_ l ∨ e < at_ := by
  induction l with
  | nil => exact .inr h
  | cons y r ih =>
    rw [ls_cons] at h
    by_cases hy : y.2.1 < at_
    · exact .inl (aft_pos.2 ⟨y, List.mem_cons_self, hy⟩)
    · rcases ih (by omega) with h1 | h1
      · obtain ⟨z, hz, hz2⟩ := aft_pos.1 h1
        exact .inl (aft_pos.2 ⟨z, List.mem_cons_of_mem _ hz, hz2⟩)
      · exact .inr h1
theorem ls_mem {e : Int} {l : List I} {y : I} (h : y ∈ l) : lsH e l ≤ y.2.1 := by
  induction l with
  | nil => cases h
  | cons x r ih =>
    rw [ls_cons]
    rcases List.mem_cons.1 h with rfl | h
    · omega
    · have := ih h; omega
/-- How many least starts are below a byte. -/
theorem count_aft {e at_ : Int} {l : List I} (h : ∀ y ∈ l, y.2.1 ≤ e) : ((leastL e l).take l.length).countP (· < at_) = aft at_ l := by
  induction l with
  | nil => rfl
  | cons y r ih =>
    rw [least_cons, List.length_cons, List.take_succ_cons, List.countP_cons, ih (fun z hz => h z (List.mem_cons_of_mem _ hz)), ls_cons]
    have hy := h y List.mem_cons_self
    show aft at_ r + (if (decide (min y.2.1 (lsH e r) < at_)) = true then 1 else 0) = (if 0 < aft at_ r then aft at_ r + 1 else if y.2.1 < at_ then 1 else 0)
    by_cases hr : 0 < aft at_ r
    · obtain ⟨z, hz, hz2⟩ := aft_pos.1 hr
      have := ls_mem (e := e) hz
      rw [if_pos hr, if_pos (by rw [decide_eq_true_eq]; omega)]
    · rw [if_neg hr]
      have h0 : aft at_ r = 0 := by omega
      rw [h0]
      by_cases hy2 : y.2.1 < at_
      · rw [if_pos hy2, if_pos (by rw [decide_eq_true_eq]; omega)]
      · rw [if_neg hy2, if_neg (fun q => ?_)]
        rw [decide_eq_true_eq] at q
        rcases ls_lt (show lsH e r < at_ by omega) with q1 | q1
        · exact hr q1
        · omega
/-- From the place on no item begins below the byte; the one ahead does. -/
theorem aft_behind {at_ : Int} : ∀ {l : List I} {k : Nat} {y : I}, aft at_ l ≤ k → l[k]? = some y → ¬ y.2.1 < at_
  | [], k, y, _, h => by simp at h
  | x :: r, 0, y, hk, h => fun hy => by
    have : 0 < aft at_ (x :: r) := aft_pos.2 ⟨y, List.mem_of_getElem? h, hy⟩
    omega
  | x :: r, k + 1, y, hk, h => by
    rw [List.getElem?_cons_succ] at h
    refine aft_behind ?_ h
    have : aft at_ (x :: r) = if 0 < aft at_ r then aft at_ r + 1 else if x.2.1 < at_ then 1 else 0 := rfl
    rw [this] at hk
    by_cases hr : 0 < aft at_ r
    · rw [if_pos hr] at hk; omega
    · omega
theorem aft_ahead {at_ : Int} : ∀ {l : List I} {k : Nat}, aft at_ l = k + 1 → ∃ y, l[k]? = some y ∧ y.2.1 < at_
  | [], k, h => by simp [aft] at h
  | x :: r, k, h => by
    have e : aft at_ (x :: r) = if 0 < aft at_ r then aft at_ r + 1 else if x.2.1 < at_ then 1 else 0 := rfl
    rw [e] at h
    by_cases hr : 0 < aft at_ r
    · rw [if_pos hr] at h
      obtain ⟨j, rfl⟩ : ∃ j, k = j + 1 := ⟨k - 1, by omega⟩
      rw [List.getElem?_cons_succ]
      exact aft_ahead (by omega)
    · rw [if_neg hr] at h
      by_cases hx : x.2.1 < at_
      · rw [if_pos hx] at h
        obtain rfl : k = 0 := by omega
        exact ⟨x, rfl, hx⟩
      · rw [if_neg hx] at h; omega
def mnF (s : Int) (l : List I) : Int := l.foldl (fun a y => min a y.2.1) s
def mxF (s : Int) (l : List I) : Int := l.foldl (fun a y => max a y.2.2) s
theorem mn_cons (s : Int) (y : I) (l : List I) : mnF s (y :: l) = mnF (min s y.2.1) l := rfl
theorem mx_cons (s : Int) (y : I) (l : List I) : mxF s (y :: l) = mxF (max s y.2.2) l := rfl
theorem mn_snoc (s : Int) (l : List I) (y : I) : mnF s (l ++ [y]) = min (mnF s l) y.2.1 := by simp [mnF]
theorem mx_snoc (s : Int) (l : List I) (y : I) : mxF s (l ++ [y]) = max (mxF s l) y.2.2 := by simp [mxF]
theorem mn_min (s t : Int) (l : List I) : mnF (min s t) l = min s (mnF t l) := by
  induction l generalizing t with
  | nil => rfl
  | cons y r ih => rw [mn_cons, mn_cons, Int.min_assoc, ih]
theorem ls_mn (e : Int) (l : List I) : lsH e l = mnF e l := by
  induction l with
  | nil => rfl
  | cons y r ih => rw [ls_cons, mn_cons, Int.min_comm e, mn_min, ih]
theorem mn_first {e : Int} {y : I} (r : List I) (h : y.2.1 ≤ e) : mnF y.2.1 (y :: r) = mnF e (y :: r) := by
  rw [mn_cons, mn_cons, show min y.2.1 y.2.1 = min e y.2.1 by omega]
theorem mx_first {y : I} (r : List I) (h : 0 ≤ y.2.2) : mxF y.2.2 (y :: r) = mxF 0 (y :: r) := by
  rw [mx_cons, mx_cons, show max y.2.2 y.2.2 = max 0 y.2.2 by omega]
theorem mn_le (s : Int) (l : List I) : mnF s l ≤ s ∧ ∀ y ∈ l, mnF s l ≤ y.2.1 := by
  induction l generalizing s with
  | nil => exact ⟨Int.le_refl _, fun y h => by cases h⟩
  | cons x r ih =>
    obtain ⟨h1, h2⟩ := ih (min s x.2.1)
    rw [mn_cons]
    refine ⟨by omega, fun y hy => ?_⟩
    rcases List.mem_cons.1 hy with rfl | hy
    · omega
    · exact h2 y hy
theorem mx_ge (s : Int) (l : List I) : s ≤ mxF s l ∧ ∀ y ∈ l, y.2.2 ≤ mxF s l := by
  induction l generalizing s with
  | nil => exact ⟨Int.le_refl _, fun y h => by cases h⟩
  | cons x r ih =>
    obtain ⟨h1, h2⟩ := ih (max s x.2.2)
    rw [mx_cons]
    refine ⟨by omega, fun y hy => ?_⟩
    rcases List.mem_cons.1 hy with rfl | hy
    · omega
    · exact h2 y hy
theorem mn_is (s : Int) (l : List I) : mnF s l = s ∨ ∃ y ∈ l, mnF s l = y.2.1 := by
  induction l generalizing s with
  | nil => exact .inl rfl
  | cons x r ih =>
    rw [mn_cons]
    rcases ih (min s x.2.1) with h | ⟨y, hy, h⟩
    · by_cases hx : x.2.1 ≤ s
      · exact .inr ⟨x, List.mem_cons_self, by omega⟩
      · exact .inl (by omega)
    · exact .inr ⟨y, List.mem_cons_of_mem _ hy, h⟩
theorem mx_is (s : Int) (l : List I) : mxF s l = s ∨ ∃ y ∈ l, mxF s l = y.2.2 := by
  induction l generalizing s with
  | nil => exact .inl rfl
  | cons x r ih =>
    rw [mx_cons]
    rcases ih (max s x.2.2) with h | ⟨y, hy, h⟩
    · by_cases hx : s ≤ x.2.2
      · exact .inr ⟨x, List.mem_cons_self, by omega⟩
      · exact .inl (by omega)
    · exact .inr ⟨y, List.mem_cons_of_mem _ hy, h⟩
/-- The items from one place to below another. -/
def seg (l : List I) (f t : Nat) : List I := (l.drop f).take (t - f)
def spanP (e : Int) (l : List I) (f t : Int) : Int × Int :=
  if f < 0 ∨ t < f ∨ (l.length : Int) < t then (-1, -1) else if f = t then (lsH e (l.drop f.toNat), lsH e (l.drop f.toNat)) else (mnF e (seg l f.toNat t.toNat), mxF 0 (seg l f.toNat t.toNat))
/-- Items as they can be: of a text of e bytes. -/
def Fine (e : Int) (l : List I) : Prop := ∀ y ∈ l, 0 ≤ y.2.1 ∧ y.2.1 < y.2.2 ∧ y.2.2 ≤ e
theorem fine_nfd {e : Int} {l : List I} (h : Fine e l) : Fine e (nrm.nfdI l) := fun x hx => by
  unfold nrm.nfdI at hx
  rw [nfd.mem_ordL] at hx
  obtain ⟨y, hy, hxy⟩ := List.mem_flatMap.1 hx
  obtain ⟨r, hr, rfl⟩ := List.mem_map.1 hxy
  exact h y hy
theorem seg_mem {l : List I} {f t : Nat} {y : I} (h : y ∈ seg l f t) : y ∈ l := List.mem_of_mem_drop (List.mem_of_mem_take h)
theorem seg_cons {l : List I} {f t : Nat} {y : I} (hf : l[f]? = some y) (h : f < t) : seg l f t = y :: seg l (f + 1) t := by
  unfold seg
  obtain ⟨hl, e⟩ := List.getElem?_eq_some_iff.1 hf
  rw [List.drop_eq_getElem_cons hl, e]
  obtain ⟨k, hk⟩ : ∃ k, t - f = k + 1 := ⟨t - f - 1, by omega⟩
  rw [hk, List.take_succ_cons, show t - (f + 1) = k by omega]
end Go.Proofs.YtlidgjkipbijlaaGreatDoor.itm
end
