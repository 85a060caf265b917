/- Texts that the proof leans on, one behind the other. -/
import Derived.Test.YtinlolmjafjhnaaGreatDoorBdFld1
import Derived.Test.YtinlolmjafjhnaaGreatDoorBdDcp2
import Derived.Test.YtinlolmjafjhnaaGreatDoorBdPrp7
import Derived.Test.YtinlolmjafjhnaaGreatDoorBdNod1
import Derived.Laws.AppendOwnNone
import Derived.Lib.AppendZerosOnto
import Derived.Lib.SliceRun

section
/- The sets of classes, plainly. -/
set_option linter.unusedVariables false
set_option linter.unusedSimpArgs false
namespace Go.Proofs.YtinlolmjafjhnaaGreatDoor.cls
open Go.RowKit
open Go.Proofs.YtinlolmjafjhnaaGreatDoor.rng (R has IsSet Sl code CanF)
open Go.Proofs.YtinlolmjafjhnaaGreatDoor.fld (sim IsClo)
open Go.Proofs.YtinlolmjafjhnaaGreatDoor.dcp (sinL fullL)
open Go.Proofs.YtinlolmjafjhnaaGreatDoor.nod

/-- r is the set of the code points of which P holds. -/
def IsP (r : List R) (P : Int → Prop) : Prop := CanF 0 r ∧ ∀ x, code x = true → (has r x = true ↔ P x)
theorem IsP.eq {r s : List R} {P Q : Int → Prop} (h1 : IsP r P) (h2 : IsP s Q) (h : ∀ x, code x = true → (P x ↔ Q x)) : r = s := by
 refine rng.can_ext r s 0 (Int.le_refl _) h1.1 h2.1 (fun x => ?_)
 cases hc : code x
 ·simp [has, hc]
 ·rw [Bool.eq_iff_iff, h1.2 x hc, h2.2 x hc, h x hc]
theorem IsP.congr {r : List R} {P Q : Int → Prop} (h : IsP r P) (e : ∀ x, code x = true → (P x ↔ Q x)) : IsP r Q := ⟨h.1, fun x hx => (h.2 x hx).trans (e x hx)⟩
theorem isP_set {r : List R} {f : Int → Bool} {P : Int → Prop} (h : IsSet r f) (e : ∀ x, code x = true → (f x = true ↔ P x)) : IsP r P := ⟨h.1, fun x hx => by rw [h.2 x hx]; exact e x hx⟩
theorem IsP.len {r : List R} {P : Int → Prop} (h : IsP r P) : r.length ≤ 557056 := rng.can_len h.1

/-- P with what canonical equivalence brings. -/
def withP (c : Bool) (P : Int → Prop) (x : Int) : Prop := P x ∨ (c = true ∧ ∃ r ∈ sinL, P r ∧ x ∈ fullL r)
/-- P with what folding brings besides. -/
def wideP (c : Bool) (fo : Int) (P : Int → Prop) (x : Int) : Prop := if fo = 0 then withP c P x else ∃ y, code y = true ∧ withP c P y ∧ sim y = sim x
def negP (g : Bool) (P : Int → Prop) (x : Int) : Prop := if g = true then ¬ P x else P x
def anyP (d : Bool) (x : Int) : Prop := d = true ∨ ¬ has [(10, 10), (13, 13), (133, 133), (8232, 8233)] x = true
def exprs (n : ByteArray) : List ByteArray :=
 if n = ⟨#[100]⟩ then [⟨#[103, 99, 61, 78, 100]⟩]
 else if n = ⟨#[119]⟩ then [⟨#[103, 99, 61, 76]⟩, ⟨#[103, 99, 61, 77]⟩, ⟨#[103, 99, 61, 78, 108]⟩, ⟨#[103, 99, 61, 78, 100]⟩, ⟨#[103, 99, 61, 80, 99]⟩]
 else if n = ⟨#[115]⟩ then [⟨#[115, 112, 97, 99, 101]⟩]
 else [n]
def firstE : List Int → Int
 | [] => 0
 | e :: l => if e = 0 then firstE l else e
def propP (n : ByteArray) (x : Int) : Prop := ∃ s ∈ exprs n, prp.setP (nam.resolveV s) x = true
def propE (n : ByteArray) : Int := firstE ((exprs n).map fun s => (nam.resolveV s).2.2)
def combP (m : Int) (Ps : List (Int → Prop)) (x : Int) : Prop :=
 if m = 1 ∨ m = 2 ∨ m = 3 then
  (match Ps with
  | [P, Q] => if m = 1 then P x ∧ Q x else if m = 2 then P x ∧ ¬ Q x else ¬ (P x ↔ Q x)
  | _ => False)
 else ∃ P ∈ Ps, P x
/-- The error of a node's set, the first one. -/
def errN : Nat → Nd → Int
 | 0, _ => 0
 | N + 1, t => if t.kind = 5 then propE t.name else if t.kind = 3 then firstE (t.kids.map (errN N)) else 0
/-- What a node's set has. -/
def fitN (c : Bool) (fo : Int) (d : Bool) : Nat → Nd → Int → Prop
 | 0, _ => fun _ => False
 | N + 1, t =>
  if t.kind = 1 then wideP c fo (fun x => x = t.a)
  else if t.kind = 4 then wideP c fo (fun x => t.a ≤ x ∧ x ≤ t.b)
  else if t.kind = 5 then negP t.neg (wideP c fo (propP t.name))
  else if t.kind = 3 then negP t.neg (combP t.mode (t.kids.map (fitN c fo d N)))
  else anyP d
def leafK (k : Int) : Bool := k == 1 || k == 4 || k == 5 || k == 2
def classK (m : Int) (n : Nat) : Bool := m == 0 || ((m == 1 || m == 2 || m == 3) && n == 2)
/-- Whether a node, and all below it, have sets. -/
def canN : Nat → Nd → Bool
 | 0, _ => false
 | N + 1, t => t.kids.all (canN N) && (leafK t.kind || (t.kind == 3 && classK t.mode t.kids.length))
theorem firstE_cons0 {e : Int} {l : List Int} (h : e = 0) : firstE (e :: l) = firstE l := by rw [firstE, if_pos h]
theorem firstE_cons {e : Int} {l : List Int} (h : ¬ e = 0) : firstE (e :: l) = e := by rw [firstE, if_neg h]
theorem firstE_zero : ∀ l : List Int, (∀ e ∈ l, e = 0) → firstE l = 0
 | [], _ => rfl
 | e :: l, h => by rw [firstE_cons0 (h e (by simp))]; exact firstE_zero l (fun x hx => h x (by simp [hx]))
def cat (ls : List (List R)) : List R := ls.flatten
theorem has_cat (ls : List (List R)) (x : Int) : has (cat ls) x = true ↔ ∃ l ∈ ls, has l x = true := by
 induction ls with
 | nil => simp [cat, has]
 | cons l ls ih =>
  show has (l ++ cat ls) x = true ↔ _
  rw [rng.has_append, Bool.or_eq_true, ih]
  simp
theorem cat_snoc (ls : List (List R)) (l : List R) : cat (ls ++ [l]) = cat ls ++ l := by simp [cat]
theorem cat_len {ls : List (List R)} {k : Nat} (h : ∀ l ∈ ls, l.length ≤ k) : (cat ls).length ≤ ls.length * k := by
 induction ls with
 | nil => simp [cat]
 | cons l ls ih =>
  show (l ++ cat ls).length ≤ _
  have h1 := h l (by simp)
  have h2 := ih (fun x hx => h x (by simp [hx]))
  rw [List.length_append, List.length_cons, Nat.succ_mul]
  omega
theorem has_span (a b x : Int) : has [(a, b)] x = true ↔ code x = true ∧ a ≤ x ∧ x ≤ b := by
 rw [rng.has_iff]
 simp
/-- The singles that a set has, each as another one. -/
def addL (a : List R) (l : List Int) : List (List R) := l.flatMap fun r => if has a r = true then (fullL r).map (fun y => [(y, y)]) else []
theorem addL_snoc (a : List R) (l : List Int) (r : Int) : addL a (l ++ [r]) = addL a l ++ (if has a r = true then (fullL r).map (fun y => [(y, y)]) else []) := by simp [addL]
theorem mem_addL (a : List R) (l : List Int) (s : List R) : s ∈ addL a l ↔ ∃ r ∈ l, has a r = true ∧ ∃ y ∈ fullL r, s = [(y, y)] := by
 unfold addL
 rw [List.mem_flatMap]
 constructor
 ·rintro ⟨r, hr, hs⟩
  by_cases h : has a r = true
  ·rw [if_pos h] at hs
   obtain ⟨y, hy, rfl⟩ := List.mem_map.1 hs
   exact ⟨r, hr, h, y, hy, rfl⟩
  ·rw [if_neg h] at hs; cases hs
 ·rintro ⟨r, hr, h, y, hy, rfl⟩
  exact ⟨r, hr, by rw [if_pos h]; exact List.mem_map.2 ⟨y, hy, rfl⟩⟩
theorem sin_code : ∀ r ∈ sinL, code r = true := fun r hr => (rng.code_iff r).2 (dcp.sin_facts.2.2 r hr).2.2
theorem wide_cat {a : List R} {P : Int → Prop} (c : Bool) (hP : ∀ x, code x = true → (has a x = true ↔ P x)) (x : Int) (hx : code x = true) : has (cat (a :: addL a (if c = true then sinL else []))) x = true ↔ withP c P x := by
 rw [has_cat]
 unfold withP
 constructor
 ·rintro ⟨l, hl, h⟩
  rcases List.mem_cons.1 hl with rfl | hl
  ·exact .inl ((hP x hx).1 h)
  ·obtain ⟨r, hr, ha, y, hy, rfl⟩ := (mem_addL _ _ _).1 hl
   cases c with
   | false => cases hr
   | true =>
    rw [if_pos rfl] at hr
    have := (has_span y y x).1 h
    obtain rfl : x = y := by omega
    exact .inr ⟨rfl, r, hr, (hP r (sin_code r hr)).1 ha, hy⟩
 ·rintro (h | ⟨rfl, r, hr, h1, h2⟩)
  ·exact ⟨a, by simp, (hP x hx).2 h⟩
  ·refine ⟨[(x, x)], List.mem_cons.2 (.inr ((mem_addL _ _ _).2 ⟨r, by rw [if_pos rfl]; exact hr, (hP r (sin_code r hr)).2 h1, x, h2, rfl⟩)), (has_span x x x).2 ⟨hx, Int.le_refl _, Int.le_refl _⟩⟩
theorem wide_plain {a r : List R} {P : Int → Prop} {c : Bool} (hP : ∀ x, code x = true → (has a x = true ↔ P x)) (h : IsSet r (has (cat (a :: addL a (if c = true then sinL else []))))) : IsP r (wideP c 0 P) :=
 isP_set h (fun x hx => by rw [wide_cat c hP x hx]; unfold wideP; rw [if_pos rfl])
theorem wide_clo {a r s : List R} {P : Int → Prop} {c : Bool} {fo : Int} (hf : ¬ fo = 0) (hP : ∀ x, code x = true → (has a x = true ↔ P x)) (h : IsSet r (has (cat (a :: addL a (if c = true then sinL else []))))) (hs : IsClo s r) : IsP s (wideP c fo P) := by
 refine ⟨hs.1, fun x hx => ?_⟩
 rw [hs.2 x hx]
 unfold wideP
 rw [if_neg hf]
 constructor
 ·rintro ⟨y, hy, e⟩
  have hc := rng.has_code hy
  rw [h.2 y hc] at hy
  exact ⟨y, hc, (wide_cat c hP y hc).1 hy, e⟩
 ·rintro ⟨y, hc, hy, e⟩
  exact ⟨y, by rw [h.2 y hc]; exact (wide_cat c hP y hc).2 hy, e⟩
end Go.Proofs.YtinlolmjafjhnaaGreatDoor.cls
end

section
/- Rows of sets in memory; span, turned; slices.Grow and slices.Concat of any number of rows of ranges; join. -/
set_option linter.unusedVariables false
set_option linter.unusedSimpArgs false
namespace Go.Proofs.YtinlolmjafjhnaaGreatDoor.cls
open Go.Shelf Go.RowKit Go.Lib Go.Proofs
open Go.Proofs.YtinlolmjafjhnaaGreatDoor.rng (R has IsSet Sl code CanF flat RV)
open Go.Proofs.YtinlolmjafjhnaaGreatDoor.nod

theorem infoSets : (Tryz.prog.info? 22).map (fun i => (i.zero, i.size, i.bytes)) = some (some (.slice none 0 0), 1, 24) := by kernel_rfl
abbrev St2 := Value × List R
/-- v is a row of the call's own, of sets that are rows of its own. -/
structure SO (w : World) (B A : Nat) (v : Value) (L : List St2) : Prop where
 row : w.ownsRow B 22 1 v L.length (L.map Prod.fst)
 each : ∀ q ∈ L, rng.Own w A q.1 q.2
theorem SO.nil (w : World) (B A : Nat) : SO w B A (.slice none 0 0) [] := ⟨World.ownsRow_nil _ _ _ _, fun t h => (by cases h)⟩
theorem SO.below {w w' : World} {B A : Nat} {v : Value} {L : List St2} (h : SO w B A v L) (hb : Below w.heap.size w w') : SO w' B A v L := ⟨rng.own_below' h.row hb, fun t ht => (h.each t ht).below hb⟩
theorem SO.alloc {w : World} {B A : Nat} {v : Value} {L : List St2} (h : SO w B A v L) (o : Obj) : SO (w.alloc o) B A v L := h.below ((Below.refl _ _).alloc (Nat.le_refl _) o)
theorem SO.snoc {w w' : World} {B A : Nat} {v v' : Value} {L : List St2} (h : SO w B A v L) (x : Value) (t : List R) (hrow : w'.ownsRow B 22 1 v' (L.length + 1) (L.map Prod.fst ++ [x])) (hg : w.grownBy w' v.ownBlock) (hx : rng.Own w A x t) : SO w' B A v' (L ++ [(x, t)]) := by
 refine ⟨by rw [List.length_append, List.map_append]; exact hrow, fun q hq => ?_⟩
 rcases List.mem_append.1 hq with hq | hq
 ·exact World.ownsRow.kept (h.each q hq) hg (rng.own_apart (h.each q hq) h.row (by decide))
 ·obtain rfl : q = (x, t) := by simpa using hq
  exact World.ownsRow.kept hx hg (rng.own_apart hx h.row (by decide))
theorem own_sl {w : World} {B : Nat} {v : Value} {l : List R} (h : rng.Own w B v l) : ∃ a c, v = .slice a l.length c := by
 obtain ⟨a, c, e, _⟩ := h.view
 exact ⟨a, c, e⟩
theorem one_set (w : World) (x : Value) : ∀ (j : Nat) (u : Value), [x][j]? = some u → (w.alloc (Obj.cells #[x] 22)).cell? ((⟨w.heap.size, 0, none⟩ : Addr).add j) = some u := by
 intro j u hj
 match j, hj with
 | 0, hj => simp at hj; subst hj; simp [Addr.add]
 | k + 1, hj => simp at hj
theorem one_cell (a : Option Addr) (n c : Nat) : ∀ u ∈ [Value.slice a n c], u.oneCell' = true := by
 intro u hu
 simp at hu; subst hu; rfl
/-- A row of one set. -/
theorem SO.one {w : World} {A : Nat} {v : Value} {l : List R} (h : rng.Own w A v l) : SO (w.alloc (.cells #[v] 22)) w.heap.size A (.slice (some ⟨w.heap.size, 0, none⟩) 1 1) [(v, l)] := by
 refine ⟨?_, fun q hq => ?_⟩
 ·obtain ⟨a, c, rfl⟩ := own_sl h
  exact ⟨rfl, .inr ⟨w.heap.size, 1, #[.slice a l.length c], rfl, Nat.le_refl _, World.alloc_heap_new _ _, Nat.le_refl _, by decide, by simp, by simp⟩⟩
 ·obtain rfl : q = (v, l) := by simpa using hq
  exact h.below ((Below.refl _ _).alloc (Nat.le_refl _) _)
theorem own_mn {w : World} {B B' : Nat} {v : Value} {l : List R} (h : rng.Own w B v l) (hB : B' ≤ B) : rng.Own w B' v l := rng.own_mono h hB
/-- Set number j of a row. -/
theorem SO.at_ {w : World} {B A : Nat} {v : Value} {L : List St2} (h : SO w B A v L) {j : Nat} {q : St2} (hj : L[j]? = some q) : ∃ b c, v = .slice (some ⟨b, 0, none⟩) L.length c ∧ w.cell? ⟨b, j, none⟩ = some q.1 ∧ rng.Own w A q.1 q.2 := by
 have hl : j < L.length := (List.getElem?_eq_some_iff.1 hj).1
 have hq := h.each q (List.mem_of_getElem? hj)
 rcases h.row.2 with ⟨_, h0⟩ | ⟨g, cap, cur, rfl, hg, hgg, rest⟩
 ·omega
 ·refine ⟨g, cap, rfl, ?_, hq⟩
  have := h.row.cellAt j (by omega)
  rw [this, List.getElem?_map, hj]
  rfl

theorem grow_zero (w : World) : Calls Tryz.prog 176 #[.slice none 0 0, .int .i64 0] w fun e w' => e = .returned (.slice none 0 0) ∧ w' = w := by
 go_enter Tryz.func176, Tryz.ntmps176
 go_wp2
 go_ret
 exact ⟨rfl, rfl⟩
set_option maxHeartbeats 400000 in
set_option maxRecDepth 1000000 in
theorem grow_pos (n : Nat) (w : World) (h0 : 0 < n) (hn : n ≤ 200000000) :
  Calls Tryz.prog 176 #[.slice none 0 0, .int .i64 n] w fun e w' => ∃ v, e = .returned v ∧ w'.ownsRow w.heap.size 66 2 v 0 [] ∧ Below w.heap.size w w' := by
 obtain ⟨i0, hi, hz0, hz1, hz2⟩ := rng.info_parts rng.infoRange
 have hold : (Builtin.firstCells i0.size 0 (.slice none 0 0)).run Tryz.prog w.drew = .ok ([] : List Value).toArray w.drew := run_firstCells_none w.drew i0.size 0 0 0
 have hrz : ∀ ty, (Builtin.append_ #[22, 3] ty #[.slice none 0 0, .int .i64 (n : Int)]).run Tryz.prog w =
   .ok (.slice (some ⟨w.heap.size, 0, none⟩) n (grownCap w n 0 66)) (w.drew.alloc (.cells (([] : List Value).toArray ++ Builtin.zeroCells (Value.agg #[.int .i64 0, .int .i64 0]).cells n ++ Builtin.zeroCells (Value.agg #[.int .i64 0, .int .i64 0]).cells (grownCap w n 0 66 - n)) 66)) := fun ty => by
  have h := Lib.run_append_grow_zeros w 22 3 ty 66 i0 (.agg #[.int .i64 0, .int .i64 0]) .i64 .i64 Tryz.underlying22 Tryz.underlying3 hi hz0 none 0 0 [] hold n (by omega) (by omega) (by omega) (by omega)
   (by rw [hz2]; omega)
   (by rw [Nat.zero_add]; exact growslice_fits h0 (by rw [hz2]; omega))
  simpa using h
 have hGn : n ≤ grownCap w n 0 66 := grownCap_ge w _ _ _
 have hG63 := grownCap_le_maxLen w n 0 66 (by unfold maxLen; omega)
 have hp : (0 : Int) < (n : Int) := by omega
 generalize grownCap w n 0 66 = G at *
 have HO : Hid ((w.alloc (.cells (Builtin.zeroCells #[.int .i64 0, .int .i64 0] n ++ Builtin.zeroCells #[.int .i64 0, .int .i64 0] (G - n)) 66)).drew.ownsRow w.heap.size 66 2 (.slice (some ⟨w.heap.size, 0, none⟩) 0 G) 0 []) :=
  (World.ownsRow_made (base := w.heap.size) (e := 66) (size := 2) w _ G (Nat.le_refl _) hG63 (by simp [Builtin.zeroCells]; omega)).drew
 clear hold
 have hGb : G ≤ 9223372036854775807 := by unfold maxLen at hG63; omega
 go_enter Tryz.func176, Tryz.ntmps176
 go_wp2_with (at_builtin; refine Lib.wpList_append_run _ rfl _ _ _ _ rfl _ _ rfl rfl _ _ (hrz _) ?_)
 all_goals go_ret
 all_goals exact ⟨_, rfl, HO.out, ((Below.refl _ _).alloc (Nat.le_refl _) _).drew⟩
theorem grow_any (n : Nat) (w : World) (hn : n ≤ 200000000) :
  Calls Tryz.prog 176 #[.slice none 0 0, .int .i64 n] w fun e w' => ∃ v, e = .returned v ∧ rng.Own w' w.heap.size v [] ∧ Below w.heap.size w w' := by
 rcases Nat.eq_zero_or_pos n with rfl | h
 ·refine (grow_zero w).mono ?_
  rintro e w' ⟨rfl, rfl⟩
  exact ⟨_, rfl, World.ownsRow_nil _ _ _ _, Below.refl _ _⟩
 ·exact grow_pos n w h hn
/-- append(dst, src...), dst the call's own, src an own row, nil or not. -/
theorem wpList_append_rng {w : World} {ops : Array Oper} {rest : List Oper} {o : Oper} {a : Act} {Q : Exit → Act → World → Prop} (hgd : o.guard = none) (s x : Operand)
  (ho : o.op = .call { callee := .builtin .append, args := #[s, x], argTypes := #[22, 22] })
  (base A : Nat) (i : TypeInfo) (hi : Tryz.prog.info? 66 = some i) (hz : i.zero = some (.agg #[.int .i64 0, .int .i64 0])) (hsize : i.size = 2) (hby : i.bytes = 16)
  (v y : Value) (l m : List R) (hs : a.eval s = v) (hown : rng.Own w base v l) (hx : a.eval x = y) (hy : rng.Own w A y m)
  (h63 : l.length + m.length ≤ 200000000) (hbase : base ≤ w.heap.size)
  (h : ∀ v' w', rng.Own w' base v' (l ++ m) → w.grownBy w' v.ownBlock → wpList Tryz.prog ops Q rest (a.put o.dst v') w') : wpList Tryz.prog ops Q (o :: rest) a w := by
 have hm : maxLen = 9223372036854775807 := rfl
 rcases hy.2 with ⟨e, h0⟩ | ⟨g, cap, cur, e, hg, hgg, hc, hcm, hsz, ht⟩
 ·obtain rfl : m = [] := List.eq_nil_of_length_eq_zero h0
  subst e
  refine wpList_append_own_none hgd s x 22 ho base 66 i 2 Tryz.underlying22 hi v l.length (flat l) hs hown hx (h v w ?_ ⟨rfl, rfl, rfl, Nat.le_refl _, fun _ _ _ => rfl⟩)
  rw [List.append_nil]; exact hown
 ·subst e
  refine wpList_append_own w hgd s x 22 ho base 66 i (.agg #[.int .i64 0, .int .i64 0]) 2 16 Tryz.underlying22 hi hz hsize hby rfl (by decide) v l.length (flat l) hs hown ⟨g, 0, none⟩ m.length cap (flat m) hx (rng.flat_length m) (fun j u hj => ?_) (rng.flat_one m) (by omega) (by omega) hbase (fun v' w' h2 h3 _ => h v' w' ?_ h3)
  ·have hj2 : j < m.length * 2 := by
    have := (List.getElem?_eq_some_iff.1 hj).1
    rw [rng.flat_length] at this
    exact this
   have h' : w.ownsRow A 66 2 (.slice (some ⟨g, 0, none⟩) m.length cap) m.length (flat m) := hy
   rw [Addr.add_lit, Nat.zero_add, h'.cellAt j hj2]
   exact hj
  ·show w'.ownsRow base 66 2 v' (l ++ m).length (flat (l ++ m))
   rw [List.length_append, rng.flat_append]
   exact h2
end Go.Proofs.YtinlolmjafjhnaaGreatDoor.cls
end

section
/- slices.Concat of any number of rows of ranges; span, turned, join, anything. -/
set_option linter.unusedVariables false
set_option linter.unusedSimpArgs false
namespace Go.Proofs.YtinlolmjafjhnaaGreatDoor.cls
open Go.Shelf Go.RowKit Go.Lib Go.Proofs
open Go.Proofs.YtinlolmjafjhnaaGreatDoor.rng (R has IsSet Sl code CanF flat RV)
open Go.Proofs.YtinlolmjafjhnaaGreatDoor.nod

def catL (L : List St2) : List R := cat (L.map Prod.snd)
theorem catL_take {L : List St2} {k : Nat} {q : St2} (h : L[k]? = some q) : catL (L.take (k + 1)) = catL (L.take k) ++ q.2 := by
 unfold catL
 rw [takeX h, List.map_append]
 exact cat_snoc _ _
theorem catL_snoc (L : List St2) (x : Value) (t : List R) : catL (L ++ [(x, t)]) = catL L ++ t := by
 unfold catL
 rw [List.map_append]
 exact cat_snoc _ _
theorem catL_le (L : List St2) (k : Nat) : (catL (L.take k)).length ≤ (catL L).length := by
 conv => rhs; rw [← List.take_append_drop k L]
 unfold catL cat
 rw [List.map_append, List.flatten_append, List.length_append]
 omega
set_option maxHeartbeats 1000000 in
set_option maxRecDepth 1000000 in
theorem concat_any (B A : Nat) (v : Value) (L : List St2) (w : World) (h : SO w B A v L) (hn : L.length ≤ 100000) (hc : (catL L).length ≤ 200000000) :
  Calls Tryz.prog 136 #[v] w fun e w' => ∃ v', e = .returned v' ∧ rng.Own w' w.heap.size v' (catL L) ∧ Below w.heap.size w w' := by
 obtain ⟨i0, hi, hz0, hz1, hz2⟩ := rng.info_parts rng.infoRange
 obtain ⟨a, c, rfl⟩ := lin.own_slice h.row
 obtain ⟨n, hnl⟩ : ∃ n, L.length = n := ⟨_, rfl⟩
 have HL : Hid (L.length = n) := hnl
 have HS : Hid (SO w B A (.slice a n c) L) := by show SO _ _ _ _ _; rw [← hnl]; exact h
 have HC : Hid ((catL L).length ≤ 200000000) := hc
 have HG : Hid (∀ m : Nat, m ≤ 200000000 → ∀ w, Calls Tryz.prog 176 #[.slice none 0 0, .int .i64 m] w fun e w' => ∃ v, e = .returned v ∧ rng.Own w' w.heap.size v [] ∧ Below w.heap.size w w') := fun m hm w => grow_any m w hm
 rw [hnl] at hn ⊢
 clear h hc hnl
 go_enter Tryz.func136, Tryz.ntmps136
 go_wp2
 go_loopw [3, 11] (fun u i wr => ∃ k m : Nat, k ≤ n ∧ m ≤ 200000000 ∧ i = .int .i64 k ∧ u = .int .i64 m ∧ Hid (m = (catL (L.take k)).length) ∧ Hid (Below w.heap.size w wr)) (fun _ i _ => n - (RowKit.intOf i).toNat)
 case atStart => exact ⟨0, 0, Nat.zero_le _, Nat.zero_le _, rfl, rfl, rfl, Below.refl _ _⟩
 case round =>
  obtain ⟨k, m, hk, hm, rfl, rfl, HM, HB1⟩ := hrel
  by_cases hlt : k < n
  ·have hlt' : (k : Int) < (n : Int) := by omega
   obtain ⟨q, hq⟩ := getX HL.out hlt
   obtain ⟨b, c', e1, hcell, hown⟩ := (HS.out.below HB1.out).at_ hq
   injection e1 with e1 e2 e3
   subst e1 e3
   obtain ⟨qa, qc, hqv⟩ := own_sl hown
   rw [hqv] at hcell
   have hle := catL_le L (k + 1)
   rw [catL_take hq, List.length_append] at hle
   have hm2 : m + q.2.length ≤ 200000000 := by have := HC.out; have := HM.out; omega
   have HM2 : Hid (m + q.2.length = (catL (L.take (k + 1))).length) := by show _ = _; rw [catL_take hq, List.length_append, ← HM.out]
   clear hle hq hown hqv e2
   generalize q.2.length = ql at *
   have hs0 : ¬ ((m : Int) + (ql : Int) < 0) := by omega
   go_wp2
   go_roundw
   case rel => exact ⟨k + 1, m + ql, by omega, hm2, by go_num, by go_num, HM2, HB1⟩
   case measure => simp [RowKit.intOf]; omega
  ·obtain rfl : k = n := by omega
   have hlt' : ¬ (k : Int) < (k : Int) := by omega
   have C := HG.out m hm wr
   clear HG HM hlt
   go_wp2_with fail
   refine C.mono ?_
   rintro e w1 ⟨v1, rfl, o1, b1⟩
   clear C
   have HO1 : Hid (rng.Own w1 w.heap.size v1 []) := own_mn o1 HB1.out.size
   have HB2 : Hid (Below w.heap.size w w1) := HB1.out.trans (b1.mono HB1.out.size)
   clear o1 b1 HB1 hm
   go_wp2
   go_loopw [6, 27] (fun u i wz => ∃ j : Nat, j ≤ k ∧ i = .int .i64 j ∧ Hid (rng.Own wz w.heap.size u (catL (L.take j))) ∧ Hid (Below w.heap.size w wz)) (fun _ i _ => k - (RowKit.intOf i).toNat)
   case atStart => exact ⟨0, Nat.zero_le _, rfl, HO1, HB2⟩
   case round =>
    clear HO1 HB2
    obtain ⟨j, hj, rfl, HO, HB⟩ := hrel
    by_cases hjt : j < k
    ·have hjt' : (j : Int) < (k : Int) := by omega
     obtain ⟨q, hq⟩ := getX HL.out hjt
     obtain ⟨b, c', e1, hcell, hown⟩ := (HS.out.below HB.out).at_ hq
     injection e1 with e1 e2 e3
     subst e1 e3
     have hle := catL_le L (j + 1)
     rw [catL_take hq, List.length_append] at hle
     have hl2 : (catL (L.take j)).length + q.2.length ≤ 200000000 := by have := HC.out; omega
     have HT : Hid (catL (L.take (j + 1)) = catL (L.take j) ++ q.2) := catL_take hq
     have hsz := HB.out.size
     have HQ : Hid (rng.Own wr A q.1 q.2) := hown
     obtain ⟨ql, hql⟩ : ∃ x, q.1 = x := ⟨_, rfl⟩
     rw [hql] at hcell HQ
     clear hle hq hown e2 hql
     go_wp2_with (at_builtin; refine wpList_append_rng rfl _ _ rfl w.heap.size A i0 hi hz0 hz1 hz2 _ _ _ _ rfl HO.out rfl HQ.out hl2 hsz ?_)
     intro v' w3 hown3 hgrow
     have R1 : Hid (Below w.heap.size w w3) := Below.grown HB.out hgrow HB.out.size (fun k e => (HO.out.lt k e).1)
     have R2 : Hid (rng.Own w3 w.heap.size v' (catL (L.take (j + 1)))) := by show rng.Own _ _ _ _; rw [HT.out]; exact hown3
     clear hgrow hown3 HO HB HQ HT hl2
     go_wp2
     go_roundw
     case rel => exact ⟨j + 1, by omega, by go_num, R2, R1⟩
     case measure => simp [RowKit.intOf]; omega
    ·obtain rfl : j = k := by omega
     have hjt' : ¬ (j : Int) < (j : Int) := by omega
     have HF : Hid (rng.Own wr w.heap.size u6 (catL L)) := by
      have q := HO.out
      rw [List.take_of_length_le (by rw [HL.out]; exact Nat.le_refl _)] at q
      exact q
     clear HO
     go_wp2
     go_ret
     exact ⟨_, rfl, HF.out, HB.out⟩
theorem span_any (a b : Int) (w : World) : Calls Tryz.prog 66 #[.int .i64 a, .int .i64 b] w fun e w' => e = .returned (.slice (some ⟨w.heap.size, 0, none⟩) 1 1) ∧ w' = w.alloc (.cells #[.int .i64 a, .int .i64 b] 66) := by
 go_enter Tryz.func66, Tryz.ntmps66
 go_wp2
 go_ret
 exact ⟨rfl, rfl⟩
theorem span_own (a b : Int) (w : World) : rng.Own (w.alloc (.cells #[.int .i64 a, .int .i64 b] 66)) w.heap.size (.slice (some ⟨w.heap.size, 0, none⟩) 1 1) [(a, b)] := prp.lit_own w [(a, b)] _ rfl (by simp)
theorem span_o (a b : Int) (w : World) : Calls Tryz.prog 66 #[.int .i64 a, .int .i64 b] w fun e w' => ∃ v, e = .returned v ∧ rng.Own w' w.heap.size v [(a, b)] ∧ Below w.heap.size w w' := by
 refine (span_any a b w).mono ?_
 rintro e w' ⟨rfl, rfl⟩
 exact ⟨_, rfl, span_own a b w, (Below.refl _ w).alloc (Nat.le_refl _) _⟩
theorem join_any (B A : Nat) (v : Value) (L : List St2) (w : World) (h : SO w B A v L) (hn : L.length ≤ 100000) (hc : (catL L).length ≤ 200000000) :
  Calls Tryz.prog 97 #[v] w fun e w' => ∃ v' r, e = .returned v' ∧ rng.Own w' w.heap.size v' r ∧ IsSet r (has (catL L)) ∧ Below w.heap.size w w' := by
 have C := concat_any B A v L w h hn hc
 obtain ⟨a, c, rfl⟩ := lin.own_slice h.row
 have HC : Hid ((catL L).length ≤ 200000000) := hc
 clear h hc
 generalize L.length = n at *
 go_enter Tryz.func97, Tryz.ntmps97
 go_wp2_with fail
 refine C.mono ?_
 rintro e w1 ⟨v1, rfl, o1, b1⟩
 clear C
 obtain ⟨xa, xc, hx, hrv, _, _⟩ := o1.view
 subst hx
 have C := rng.make_any xa xc (catL L) w1 HC.out hrv
 clear o1 hrv
 generalize (catL L).length = m at *
 go_wp2_with fail
 refine C.mono ?_
 rintro e w2 ⟨v2, r, rfl, o2, hr, b2⟩
 clear C
 have H2 : Hid (rng.Own w2 w.heap.size v2 r) := own_mn o2 b1.size
 have HR : Hid (IsSet r (has (catL L))) := hr
 have HB : Hid (Below w.heap.size w w2) := b1.trans (b2.mono b1.size)
 obtain ⟨ya, yc, hy⟩ := own_sl o2
 subst hy
 clear o2 hr b1 b2
 generalize r.length = k at *
 go_wp2
 go_ret
 exact ⟨_, r, rfl, H2.out, HR.out, HB.out⟩
theorem neg_set {r s : List R} {P : Int → Prop} (h : IsP r P) (hs : IsSet s (fun x => !has r x)) : IsP s (negP true P) := by
 refine isP_set hs (fun x hx => ?_)
 unfold negP
 rw [if_pos rfl, ← h.2 x hx]
 simp
theorem turned_any (A : Nat) (v : Value) (r : List R) (g : Bool) (P : Int → Prop) (w : World) (ho : rng.Own w A v r) (hA : A ≤ w.heap.size) (hP : IsP r P) :
  Calls Tryz.prog 101 #[v, .bool g] w fun e w' => ∃ v' r', e = .returned v' ∧ rng.Own w' A v' r' ∧ IsP r' (negP g P) ∧ Below w.heap.size w w' := by
 have hl := hP.len
 obtain ⟨xa, xc, hx, hrv, _, _⟩ := ho.view
 subst hx
 have HO : Hid (rng.Own w A (.slice xa r.length xc) r) := ho
 have HP : Hid (IsP r P) := hP
 cases g with
 | false =>
  clear ho hrv hP hl
  generalize r.length = n at *
  go_enter Tryz.func101, Tryz.ntmps101
  go_wp2
  go_ret
  refine ⟨_, r, rfl, HO.out, HP.out.congr (fun x _ => ?_), Below.refl _ _⟩
  unfold negP
  rw [if_neg (by decide)]
 | true =>
  have C := rng.not_any xa xc r w (by omega) hrv
  clear ho hrv hP hl
  generalize r.length = n at *
  go_enter Tryz.func101, Tryz.ntmps101
  go_wp2_with fail
  refine C.mono ?_
  rintro e w2 ⟨v2, s, rfl, o2, hs, b2⟩
  clear C
  have H2 : Hid (rng.Own w2 A v2 s) := own_mn o2 hA
  have H3 : Hid (IsP s (negP true P)) := neg_set HP.out hs
  obtain ⟨ya, yc, hy⟩ := own_sl o2
  subst hy
  clear o2 hs HO HP
  generalize s.length = k at *
  go_wp2
  go_ret
  exact ⟨_, s, rfl, H2.out, H3.out, b2⟩
end Go.Proofs.YtinlolmjafjhnaaGreatDoor.cls
end

section
/- widened: a leaf's set with what folding and canonical equivalence bring. -/
set_option linter.unusedVariables false
set_option linter.unusedSimpArgs false
namespace Go.Proofs.YtinlolmjafjhnaaGreatDoor.cls
open Go.RowKit
open Go.Proofs.YtinlolmjafjhnaaGreatDoor.rng (R has IsSet Sl code CanF RV)
open Go.Proofs.YtinlolmjafjhnaaGreatDoor.dcp (sinL fullL)
open Go.Proofs.YtinlolmjafjhnaaGreatDoor.nod

def sgl (c : Bool) : List Int := if c = true then sinL else []
theorem sgl_one (c : Bool) : ∀ r ∈ sgl c, (fullL r).length = 1 ∧ prp.okI r := by
 intro r hr
 cases c with
 | false => cases hr
 | true => have := dcp.sin_facts.2.2 r hr; exact ⟨this.1, by unfold prp.okI; omega⟩
theorem sgl_len (c : Bool) : (sgl c).length ≤ 1000 := by
 cases c with
 | false => decide
 | true => exact dcp.sin_facts.2.1
theorem addL_len (a : List R) : ∀ l : List Int, (∀ r ∈ l, (fullL r).length = 1) → (addL a l).length ≤ l.length
 | [], _ => by simp [addL]
 | r :: l, h => by
  have h1 := h r (by simp)
  have h2 := addL_len a l (fun x hx => h x (by simp [hx]))
  show ((if has a r = true then (fullL r).map (fun y => [(y, y)]) else []) ++ addL a l).length ≤ _
  rw [List.length_append, List.length_cons]
  split
  ·rw [List.length_map, h1]; omega
  ·simp; omega
theorem addL_each (a : List R) (l : List Int) : ∀ s ∈ addL a l, s.length ≤ 1 := by
 intro s hs
 obtain ⟨r, _, _, y, _, rfl⟩ := (mem_addL _ _ _).1 hs
 simp
def oneL (l : List Int) : List (List R) := l.map fun y => [(y, y)]
theorem wl_len (a : List R) (c : Bool) (k : Nat) (l : List Int) (hl : l.length ≤ 1) : ((a :: addL a ((sgl c).take k)) ++ oneL l).length ≤ 1002 := by
 have h := addL_len a ((sgl c).take k) (fun r hr => (sgl_one c r (List.mem_of_mem_take hr)).1)
 rw [List.length_take] at h
 have := sgl_len c
 unfold oneL
 rw [List.length_append, List.length_cons, List.length_map]
 omega
theorem wl_cat (a : List R) (c : Bool) (hl : a.length ≤ 1000000) : (cat (a :: addL a (sgl c))).length ≤ 200000000 := by
 have h := addL_len a (sgl c) (fun r hr => (sgl_one c r hr).1)
 have h2 := cat_len (ls := addL a (sgl c)) (k := 1) (addL_each a _)
 have := sgl_len c
 show (a ++ cat (addL a (sgl c))).length ≤ _
 rw [List.length_append]
 omega
set_option maxHeartbeats 4000000 in
set_option maxRecDepth 1000000 in
theorem widened_any (tb : Nat) (c d mu : Bool) (fo : Int) (sa : Option Addr) (sn sc : Nat) (A : Nat) (v : Value) (a : List R) (P : Int → Prop) (w : World) (hT : prp.Tabs w tb) (hE : prp.Env w) (hsn : (sgl c).length = sn) (hS : prp.IV w (.slice sa sn sc) (sgl c))
  (hA : A ≤ w.heap.size) (ho : rng.Own w A v a) (hP : ∀ x, code x = true → (has a x = true ↔ P x)) (hl : a.length ≤ 1000000) :
  Calls Tryz.prog 65 #[.agg #[.pointer (some ⟨tb, 0, none⟩), .bool c, .bool d, .bool mu, .int .i64 fo, .slice sa sn sc], v] w fun e w' => ∃ v' r, e = .returned v' ∧ rng.Own w' w.heap.size v' r ∧ IsP r (wideP c fo P) ∧ Below w.heap.size w w' := by
 obtain ⟨i0, hi, hz0, hz1, hz2⟩ := rng.info_parts infoSets
 have HT : Hid (prp.Tabs w tb) := hT
 have HE : Hid (prp.Env w) := hE
 have HS : Hid (prp.IV w (.slice sa sn sc) (sgl c)) := hS
 have HSN : Hid ((sgl c).length = sn) := hsn
 have HO : Hid (rng.Own w A v a) := ho
 have HP : Hid (∀ x, code x = true → (has a x = true ↔ P x)) := hP
 have HAL : Hid (a.length ≤ 1000000) := hl
 have hsn2 : sn ≤ 1000 := by rw [← hsn]; exact sgl_len c
 have bk := Bk.new w #[.pointer (some ⟨tb, 0, none⟩), .bool c, .bool d, .bool mu, .int .i64 fo, .slice sa sn sc] 81
 have B0 : Below w.heap.size w (w.alloc (.cells #[.pointer (some ⟨tb, 0, none⟩), .bool c, .bool d, .bool mu, .int .i64 fo, .slice sa sn sc] 81)) := (Below.refl _ w).alloc (Nat.le_refl _) _
 have so := SO.one (ho.below B0)
 have HBK : Hid (Bk ((w.alloc (.cells #[.pointer (some ⟨tb, 0, none⟩), .bool c, .bool d, .bool mu, .int .i64 fo, .slice sa sn sc] 81)).alloc (.cells #[v] 22)) w.heap.size #[.pointer (some ⟨tb, 0, none⟩), .bool c, .bool d, .bool mu, .int .i64 fo, .slice sa sn sc] 81) := bk.past _
 have HB0 : Hid (Below w.heap.size w ((w.alloc (.cells #[.pointer (some ⟨tb, 0, none⟩), .bool c, .bool d, .bool mu, .int .i64 fo, .slice sa sn sc] 81)).alloc (.cells #[v] 22))) := B0.alloc (by simp) _
 have HSO : Hid (SO ((w.alloc (.cells #[.pointer (some ⟨tb, 0, none⟩), .bool c, .bool d, .bool mu, .int .i64 fo, .slice sa sn sc] 81)).alloc (.cells #[v] 22)) w.heap.size A (.slice (some ⟨w.heap.size + 1, 0, none⟩) 1 1) [(v, a)]) := ⟨rng.own_mono (by simpa using so.row) (by simp), so.each⟩
 obtain ⟨va, vc, rfl⟩ := own_sl ho
 obtain ⟨an, han⟩ : ∃ n, a.length = n := ⟨_, rfl⟩
 rw [han] at HBK HB0 HSO HO ⊢
 have HAN : Hid (a.length = an) := han
 clear hT hE hS hsn ho hP hl bk B0 so han
 go_enter Tryz.func65, Tryz.ntmps65
 go_wp2
 generalize (w.alloc (.cells #[.pointer (some ⟨tb, 0, none⟩), .bool c, .bool d, .bool mu, .int .i64 fo, .slice sa sn sc] 81)).alloc (.cells #[.slice va an vc] 22) = W0 at *
 go_loopw [5, 16] (fun u i wr => ∃ (k : Nat) (L : List St2), k ≤ sn ∧ i = .int .i64 k ∧ Hid (SO wr w.heap.size A u L) ∧ Hid (L.map Prod.snd = a :: addL a ((sgl c).take k)) ∧ Hid (Bk wr w.heap.size #[.pointer (some ⟨tb, 0, none⟩), .bool c, .bool d, .bool mu, .int .i64 fo, .slice sa sn sc] 81) ∧ Hid (Below w.heap.size w wr)) (fun _ i _ => sn - (RowKit.intOf i).toNat)
 case atStart => exact ⟨0, _, Nat.zero_le _, rfl, HSO, rfl, HBK, HB0⟩
 case round =>
  clear HSO HBK HB0
  obtain ⟨k, L, hk, rfl, HSO, HLM, HBK, HW⟩ := hrel
  have hsz := HW.out.size
  by_cases hlt : k < sn
  ·have hlt' : (k : Int) < (sn : Int) := by omega
   obtain ⟨sa', sc', e9, hcl⟩ := HS.out.below HW.out
   injection e9 with e1 e2 e3
   subst e1 e3
   obtain ⟨sb, so', hsa, hc2⟩ := hcl (by rw [HSN.out]; omega)
   subst hsa
   have hcell := hc2 k (by rw [HSN.out]; exact hlt)
   obtain ⟨r, hr⟩ := getX HSN.out hlt
   rw [List.getD_eq_getElem?_getD, hr, Option.getD_some] at hcell
   have hmem := List.mem_of_getElem? hr
   obtain ⟨hr1, hr2⟩ := sgl_one c r hmem
   have HF1 : Hid ((fullL r).length = 1) := hr1
   have HRO : Hid (prp.okI r) := hr2
   have HTK : Hid (addL a ((sgl c).take (k + 1)) = addL a ((sgl c).take k) ++ (if has a r = true then oneL (fullL r) else [])) := by show _ = _; rw [takeX hr, addL_snoc]; rfl
   obtain ⟨va', vc', e8, hrv, _, _⟩ := (HO.out.below HW.out).view
   rw [HAN.out] at e8
   injection e8 with e81 _ e83
   subst e81 e83
   have C := rng.has_any va vc a r wr (by have := HAL.out; omega) hrv
   rw [HAN.out] at C
   clear hc2 hcl hr hmem hr1 hr2 hrv e2
   obtain ⟨hb, hhb⟩ : ∃ x, has a r = x := ⟨_, rfl⟩
   rw [hhb] at C
   go_wp2_with fail
   refine C.mono ?_
   rintro e w1 ⟨rfl, b1⟩
   clear C
   have HW1 : Hid (Below w.heap.size w w1) := HW.out.trans (b1.mono HW.out.size)
   have HSO1 : Hid (SO w1 w.heap.size A u5 L) := HSO.out.below b1
   have HBK1 : Hid (Bk w1 w.heap.size #[.pointer (some ⟨tb, 0, none⟩), .bool c, .bool d, .bool mu, .int .i64 fo, .slice (some ⟨sb, so', none⟩) sn sc] 81) := HBK.out.on b1
   clear b1 HSO HBK HW hcell hsz
   cases hb with
   | false =>
    have HLM2 : Hid (L.map Prod.snd = a :: addL a ((sgl c).take (k + 1))) := by show _ = _; rw [HTK.out, hhb, if_neg (by decide), List.append_nil]; exact HLM.out
    clear hhb HTK HLM
    go_wp2
    go_roundw
    case rel => exact ⟨k + 1, L, by omega, by go_num, HSO1, HLM2, HBK1, HW1⟩
    case measure => simp [RowKit.intOf]; omega
   | true =>
    have HTK2 : Hid (addL a ((sgl c).take (k + 1)) = addL a ((sgl c).take k) ++ oneL (fullL r)) := by show _ = _; rw [HTK.out, hhb, if_pos rfl]
    clear hhb HTK
    have x0 := HBK1.out.cell 0 (u := .pointer (some ⟨tb, 0, none⟩)) rfl
    have C := dcp.full_t tb r w1 (HT.out.below HW1.out) HRO.out
    go_wp2_with fail
    refine C.mono ?_
    rintro e w2 ⟨fv, rfl, of, b2⟩
    clear C x0
    have HW2 : Hid (Below w.heap.size w w2) := HW1.out.trans (b2.mono HW1.out.size)
    have HSO2 : Hid (SO w2 w.heap.size A u5 L) := HSO1.out.below b2
    have HBK2 : Hid (Bk w2 w.heap.size #[.pointer (some ⟨tb, 0, none⟩), .bool c, .bool d, .bool mu, .int .i64 fo, .slice (some ⟨sb, so', none⟩) sn sc] 81) := HBK1.out.on b2
    have HFV : Hid (prp.IOwn w2 w.heap.size fv (fullL r)) := rng.own_mono of HW1.out.size
    obtain ⟨fa, fc, hfv⟩ := lin.own_slice of
    subst hfv
    rw [HF1.out] at HFV ⊢
    clear of b2 HSO1 HBK1 HW1
    have HW2' : Hid (Below w2.heap.size w2 w2) := Below.refl _ _
    go_wp2
    go_loopw [5, 29] (fun u i wz => ∃ (j : Nat) (M : List St2), j ≤ 1 ∧ i = .int .i64 j ∧ Hid (SO wz w.heap.size A u M) ∧ Hid (M.map Prod.snd = (a :: addL a ((sgl c).take k)) ++ oneL ((fullL r).take j)) ∧ Hid (Bk wz w.heap.size #[.pointer (some ⟨tb, 0, none⟩), .bool c, .bool d, .bool mu, .int .i64 fo, .slice (some ⟨sb, so', none⟩) sn sc] 81) ∧ Hid (prp.IOwn wz w.heap.size (.slice fa 1 fc) (fullL r)) ∧ Hid (Below w.heap.size w wz)) (fun _ i _ => 1 - (RowKit.intOf i).toNat)
    case atStart => exact ⟨0, L, Nat.zero_le _, rfl, HSO2, by show _ = _; rw [HLM.out]; simp [oneL], HBK2, HFV, HW2⟩
    case round =>
     clear HSO2 HBK2 HFV HW2 HW2' HLM
     obtain ⟨j, M, hj, rfl, HSO, HMM, HBK, HFV, HW⟩ := hrel
     have hml : M.length ≤ 1002 := by
      have h1 := wl_len a c k ((fullL r).take j) (by rw [List.length_take, HF1.out]; omega)
      rw [← HMM.out, List.length_map] at h1
      exact h1
     by_cases hjt : j < 1
     ·obtain rfl : j = 0 := by omega
      obtain ⟨fa', fc', e9, hcl⟩ := HFV.out.iv
      injection e9 with e1 e2 e3
      subst e1 e3
      obtain ⟨fb, fo', hfa, hc2⟩ := hcl (by rw [HF1.out]; decide)
      subst hfa
      have hcell := hc2 0 (by rw [HF1.out]; decide)
      have HO1 : Hid (∃ y, fullL r = [y]) := List.length_eq_one_iff.1 HF1.out
      obtain ⟨y, hy⟩ := HO1.out
      rw [hy] at hcell
      simp only [List.getD_cons_zero, Nat.add_zero] at hcell
      have HY : Hid (fullL r = [y]) := hy
      have C := span_o y y wr
      clear hc2 hcl HO1 hy e2
      go_wp2_with fail
      refine C.mono ?_
      rintro e x1 ⟨sv, rfl, os, bs⟩
      clear C
      have HX : Hid (rng.Own x1 A sv [(y, y)]) := own_mn os (by have := HW.out.size; omega)
      have HWx : Hid (Below w.heap.size w x1) := HW.out.trans (bs.mono HW.out.size)
      have HSOx : Hid (SO x1 w.heap.size A u5 M) := HSO.out.below bs
      have HBKx : Hid (Bk x1 w.heap.size #[.pointer (some ⟨tb, 0, none⟩), .bool c, .bool d, .bool mu, .int .i64 fo, .slice (some ⟨sb, so', none⟩) sn sc] 81) := HBK.out.on bs
      have HFVx : Hid (prp.IOwn x1 w.heap.size (.slice (some ⟨fb, fo', none⟩) 1 fc) (fullL r)) := rng.own_below' HFV.out bs
      obtain ⟨ya, yc, hsv⟩ := own_sl os
      subst hsv
      clear os bs HSO HBK HFV HW hcell
      have hsx := HWx.out.size
      go_wp2_with (at_builtin; refine wpList_append_own _ rfl _ _ 153 rfl w.heap.size 22 i0 (.slice none 0 0) 1 24 Tryz.underlying153 hi hz0 hz1 hz2 rfl (by decide) _ M.length _ rfl (HSOx.out.row.alloc _) ⟨x1.heap.size, 0, none⟩ 1 1 [.slice ya 1 yc] rfl rfl (one_set x1 _) (one_cell ya 1 yc) ?c3 ?c4 ?c5 ?_)
      case c3 => unfold maxLen; omega
      case c4 => omega
      case c5 => first | omega | (simp; omega)
      intro v' w9 hown9 hgrow _
      have R1 : Hid (SO w9 w.heap.size A v' (M ++ [(.slice ya 1 yc, [(y, y)])])) := (HSOx.out.alloc _).snoc _ _ hown9 hgrow (HX.out.below ((Below.refl _ _).alloc (Nat.le_refl _) _))
      have R2 : Hid (Below w.heap.size w w9) := Below.grown (HWx.out.alloc hsx _) hgrow (by simp; omega) (fun k e => (HSOx.out.row.lt k e).1)
      have R3 : Hid ((M ++ [((.slice ya 1 yc : Value), [(y, y)])]).map Prod.snd = (a :: addL a ((sgl c).take k)) ++ oneL ((fullL r).take 1)) := by
       show _ = _
       rw [List.map_append, HMM.out, HY.out]
       simp [oneL]
      have hne : u5.ownBlock ≠ some w.heap.size := fld.row_ne HSOx.out.row HBKx.out (by decide)
      have R4 : Hid (Bk w9 w.heap.size #[.pointer (some ⟨tb, 0, none⟩), .bool c, .bool d, .bool mu, .int .i64 fo, .slice (some ⟨sb, so', none⟩) sn sc] 81) := fld.grow_block hgrow HBKx.out hne
      have R5 : Hid (prp.IOwn w9 w.heap.size (.slice (some ⟨fb, fo', none⟩) 1 fc) (fullL r)) := World.ownsRow.kept (World.ownsRow.alloc HFVx.out _) hgrow (rng.own_apart (World.ownsRow.alloc HFVx.out (.cells #[.slice ya 1 yc] 22)) (HSOx.out.row.alloc _) (by decide))
      clear hown9 hgrow HSOx HBKx HFVx HWx HX HMM HY hml hne
      go_wp2
      go_roundw
      case rel => exact ⟨1, _, by omega, by go_num, R1, R3, R4, R5, R2⟩
      case measure => simp [RowKit.intOf]
     ·obtain rfl : j = 1 := by omega
      have HM3 : Hid (M.map Prod.snd = a :: addL a ((sgl c).take (k + 1))) := by
       have h9 := HMM.out
       have e1 : (fullL r).take 1 = fullL r := List.take_of_length_le (by rw [HF1.out]; exact Nat.le_refl _)
       rw [e1] at h9
       show _ = _
       rw [h9, HTK2.out]; simp
      clear HMM HFV
      go_wp2
      go_roundw
      case rel => exact ⟨k + 1, M, by omega, by go_num, HSO, HM3, HBK, HW⟩
      case measure => simp [RowKit.intOf]; omega
  ·obtain rfl : k = sn := by omega
   have hlt' : ¬ (k : Int) < (k : Int) := by omega
   have HLA : Hid (L.map Prod.snd = a :: addL a (sgl c)) := by
    have h9 := HLM.out
    rw [List.take_of_length_le (by rw [HSN.out]; exact Nat.le_refl _)] at h9
    exact h9
   have hll : L.length ≤ 100000 := by
    have h1 := wl_len a c k [] (by decide)
    rw [List.take_of_length_le (by rw [HSN.out]; exact Nat.le_refl _), ← HLA.out, List.length_append, List.length_map] at h1
    omega
   have hcc : (catL L).length ≤ 200000000 := by unfold catL; rw [HLA.out]; exact wl_cat a c HAL.out
   have C := join_any w.heap.size A u5 L wr HSO.out hll hcc
   have HCL : Hid (catL L = cat (a :: addL a (if c = true then sinL else []))) := by show _ = _; unfold catL; rw [HLA.out]; rfl
   obtain ⟨ua, uc, hu⟩ := lin.own_slice HSO.out.row
   subst hu
   clear HLM HLA hll hcc HSO
   generalize L.length = Ln at *
   go_wp2_with fail
   refine C.mono ?_
   rintro e w1 ⟨v1, r, rfl, o1, hr, b1⟩
   clear C
   have HW1 : Hid (Below w.heap.size w w1) := HW.out.trans (b1.mono HW.out.size)
   have HBK1 : Hid (Bk w1 w.heap.size #[.pointer (some ⟨tb, 0, none⟩), .bool c, .bool d, .bool mu, .int .i64 fo, .slice sa k sc] 81) := HBK.out.on b1
   rw [HCL.out] at hr
   have HR : Hid (IsSet r (has (cat (a :: addL a (if c = true then sinL else []))))) := hr
   have HO1 : Hid (rng.Own w1 w.heap.size v1 r) := own_mn o1 HW.out.size
   have HSL : Hid (Sl w1 v1 r) := o1.sl
   have hrl : r.length ≤ 557056 := rng.can_len hr.1
   obtain ⟨ra, rc, hv1⟩ := own_sl o1
   subst hv1
   have x0 := HBK1.out.cell 0 (u := .pointer (some ⟨tb, 0, none⟩)) rfl
   have x4 := HBK1.out.cell 4 (u := .int .i64 fo) rfl
   clear o1 hr b1 HBK HW HCL
   by_cases hf : fo = 0
   ·subst hf
    have HFIN : Hid (IsP r (wideP c 0 P)) := wide_plain HP.out HR.out
    clear HR HP
    generalize r.length = rn at *
    go_wp2
    go_ret
    exact ⟨_, r, rfl, HO1.out, HFIN.out, HW1.out⟩
   ·have hf2 : (fo == 0) = false := by rw [beq_eq_false_iff_ne]; exact hf
    have C := fld.closure_o tb (.slice ra r.length rc) r w1 (HT.out.below HW1.out) (HE.out.below HW1.out) HSL.out (by omega)
    have HF : Hid (¬ fo = 0) := hf
    clear hf
    generalize r.length = rn at *
    go_wp2_with fail
    refine C.mono ?_
    rintro e w2 ⟨v2, s, rfl, o2, hs, b2⟩
    clear C
    have HFIN : Hid (IsP s (wideP c fo P)) := wide_clo HF.out HP.out HR.out hs
    have HO2 : Hid (rng.Own w2 w.heap.size v2 s) := own_mn o2 HW1.out.size
    have HW2 : Hid (Below w.heap.size w w2) := HW1.out.trans (b2.mono HW1.out.size)
    obtain ⟨ya, yc, hv2⟩ := own_sl o2
    subst hv2
    clear o2 hs b2 HR HP
    generalize s.length = zn at *
    go_wp2
    go_ret
    exact ⟨_, s, rfl, HO2.out, HFIN.out, HW2.out⟩
end Go.Proofs.YtinlolmjafjhnaaGreatDoor.cls
end
