/- Texts that the proof leans on, one behind the other. -/
import Derived.Test.YtpcnbamlmfmmpaaGreatDoorBdNod1
import Derived.SizedLaws
import Derived.Test.YtpcnbamlmfmmpaaGreatDoorBdFld1
import Derived.Test.YtpcnbamlmfmmpaaGreatDoorBdDcp2
import Derived.Test.YtpcnbamlmfmmpaaGreatDoorBdPrp7
import Derived.Laws.AppendOwnNone
import Derived.Lib.AppendZerosOnto
import Derived.Lib.SliceRun

section
/- Trees whose names are short. -/
set_option linter.unusedVariables false
set_option linter.unusedSimpArgs false
namespace Go.Proofs.YtpcnbamlmfmmpaaGreatDoor.cls
open Go.RowKit
open Go.Proofs.YtpcnbamlmfmmpaaGreatDoor.nod

mutual
def shortN : Nd → Prop
  | .mk _ _ _ _ _ n _ ks => n.size ≤ 140737488355327 ∧ shortL ks
def shortL : List Nd → Prop
  | [] => True
  | t :: ts => shortN t ∧ shortL ts
end
theorem short_mem {t : Nd} : ∀ {ks : List Nd}, shortL ks → t ∈ ks → shortN t
  | [], _, h => by cases h
  | x :: ks, hs, h => by
    rw [shortL] at hs
    rcases List.mem_cons.1 h with rfl | h
    · exact hs.1
    · exact short_mem hs.2 h
end Go.Proofs.YtpcnbamlmfmmpaaGreatDoor.cls
end

section
/- How a node that came in as an argument reads, and that its names are short. -/
set_option linter.unusedVariables false
set_option linter.unusedSimpArgs false
namespace Go.Proofs.YtpcnbamlmfmmpaaGreatDoor.cls
open Go.ChangeShapes Go.WideShapes Go.ChangeAt Go.RowKit Go.Deep nod
open Go.Proofs.YtpcnbamlmfmmpaaGreatDoor.rng (R RV)

theorem wall_mem {H : Type} {P : Program} {e : TypeId} {d : DataW H} {q : Nat} : ∀ {l : List (DataW H)}, d ∈ l → q ∈ d.weights P e → q ∈ DataW.weightsAll P e l
  | [], h, _ => by cases h
  | x :: l, h, hq => by
    rw [DataW.weightsAll]
    rcases List.mem_cons.1 h with rfl | h
    · exact List.mem_append_left _ hq
    · exact List.mem_append_right _ (wall_mem h hq)
theorem shortL_of : ∀ {ks : List Nd}, (∀ t ∈ ks, shortN t) → shortL ks
  | [], _ => by rw [shortL]; trivial
  | x :: ks, h => by rw [shortL]; exact ⟨h x (by simp), shortL_of fun t ht => h t (by simp [ht])⟩
set_option maxRecDepth 100000 in
theorem open_short' {H : Type} {enc : TypeId × Value → H} {W : World} : ∀ (fuel : Nat) (cs : List Value) (x : DataW H × List MemPlace), DataW.trod enc Tryz.prog W 0 (fun _ => true) true fuel 37 cs = some x →
    ∃ (t : Nd) (c0 c1 c2 c3 c4 c5 c6 c7 : Value), cs = [c0, c1, c2, c3, c4, c5, c6, c7] ∧ NV W.heap.size W t (.agg #[c0, c1, c2, c3, c4, c5, c6, c7]) ∧ ((∀ q ∈ x.1.weights Tryz.prog 37, q ≤ reachBytes) → shortN t) := by
  intro fuel
  induction fuel using Nat.strongRecOn with
  | _ fuel ih =>
  intro cs x h
  obtain ⟨xs, n, hn, rfl, hl, hlen, hf⟩ := DataW.trod_struct Tryz.underlying37 h
  have c8 : Tryz.prog.cellsOf 37 = 8 := by kernel_rfl
  rw [c8] at hl
  match cs, hl with
  | [c0, c1, c2, c3, c4, c5, c6, c7], _ =>
  match xs, hlen with
  | [y0, y1, y2, y3, y4, y5, y6, y7], _ =>
  have ci : Tryz.prog.cellsOf 3 = 1 := by kernel_rfl
  have cb : Tryz.prog.cellsOf 4 = 1 := by kernel_rfl
  have cs' : Tryz.prog.cellsOf 9 = 1 := by kernel_rfl
  have cr : Tryz.prog.cellsOf 22 = 1 := by kernel_rfl
  have ck : Tryz.prog.cellsOf 35 = 1 := by kernel_rfl
  have g0 := hf 0 _ rfl
  have g1 := hf 1 _ rfl
  have g2 := hf 2 _ rfl
  have g3 := hf 3 _ rfl
  have g4 := hf 4 _ rfl
  have g5 := hf 5 _ rfl
  have g6 := hf 6 _ rfl
  have g7 := hf 7 _ rfl
  simp [ci, cb, cs', cr, ck] at g0 g1 g2 g3 g4 g5 g6 g7
  obtain ⟨x0, hv0, _, w0⟩ := DataW.trod_int Tryz.underlying3 g0
  obtain ⟨x1, hv1, _, w1⟩ := DataW.trod_int Tryz.underlying3 g1
  obtain ⟨x2, hv2, _, w2⟩ := DataW.trod_int Tryz.underlying3 g2
  obtain ⟨x3, hv3, _, w3⟩ := DataW.trod_int Tryz.underlying3 g3
  obtain ⟨x4, hv4, _⟩ := DataW.trod_bool Tryz.underlying4 g4
  obtain ⟨x5, hv5, hy5, w5⟩ := DataW.trod_string Tryz.underlying9 g5
  obtain ⟨s, sa, sc, hv6, hs⟩ := open_set g6
  obtain rfl : c0 = .int .i64 x0 := by simpa using hv0
  obtain rfl : c1 = .int .i64 x1 := by simpa using hv1
  obtain rfl : c2 = .int .i64 x2 := by simpa using hv2
  obtain rfl : c3 = .int .i64 x3 := by simpa using hv3
  obtain rfl : c4 = .bool x4 := by simpa using hv4
  obtain rfl : c5 = .string x5 := by simpa using hv5
  subst hv6
  have hname : (∀ q ∈ (DataW.agg (List.map (fun y : DataW H × List MemPlace => y.1) [y0, y1, y2, y3, y4, y5, y6, y7])).weights Tryz.prog 37, q ≤ reachBytes) → x5.size ≤ 140737488355327 := fun hq => by
    have h1 := hq x5.data.toList.length (by
      rw [DataW.weights, Tryz.underlying37]
      exact DataW.weights_mem_each (j := 5) (t := 9) (d := y5.1) rfl rfl _ (by rw [hy5]; simp [DataW.weights]))
    have h2 := reachBytes_lt
    rw [Array.length_toList] at h1
    show x5.data.size ≤ _
    omega
  rcases DataW.trod_slice Tryz.underlying35 g7 with ⟨hcs, _⟩ | ⟨a, len, cap, elems, rest, n', hn', hcs, hy7, _, hlc, hm, hlen', hel, hsp, _⟩
  · obtain rfl : c7 = .slice none 0 0 := by simpa using hcs
    exact ⟨.mk x0 x1 x2 x3 x4 x5 s [], _, _, _, _, _, _, _, _, rfl, NV.shut (ks := []) ⟨wf64 w0, wf64 w1, wf64 w2, wf64 w3⟩ w5 hs ⟨by simp, by simp, fun _ => rfl⟩ (.inl rfl), fun hq => by rw [shortN, shortL]; exact ⟨hname hq, trivial⟩⟩
  · obtain rfl : c7 = .slice (some a) len cap := by simpa using hcs
    rcases Nat.eq_zero_or_pos len with h0 | h0
    · subst h0
      exact ⟨.mk x0 x1 x2 x3 x4 x5 s [], _, _, _, _, _, _, _, .slice (some a) 0 cap, rfl, NV.shut (ks := []) ⟨wf64 w0, wf64 w1, wf64 w2, wf64 w3⟩ w5 hs ⟨by simp, hm, fun e => (by cases e)⟩ (.inl rfl), fun hq => by rw [shortN, shortL]; exact ⟨hname hq, trivial⟩⟩
    obtain ⟨ab, ao, asp⟩ := a
    have hspot : asp = none := by
      have h1 := hel 0 h0
      rw [c8] at h1
      rw [List.getElem?_eq_getElem (by omega : 0 < elems.length)] at h1
      cases hc : W.cells? 0 ((⟨ab, ao, asp⟩ : Addr).add (0 * 8)) 8 with
      | none => rw [hc] at h1; cases h1
      | some cs'' =>
        rw [hc] at h1
        obtain ⟨t, d0, d1, d2, d3, d4, d5, d6, d7, e, hnv, _⟩ := ih n' (by omega) cs'' _ h1
        obtain ⟨_, _, hcell⟩ := World.cells?_some hc
        subst e
        have e0 := hcell 0 (by simp)
        simpa [Addr.add] using World.cell?_spot e0
    subst hspot
    have each : ∀ i, i < len → ∃ t : Nd, (∃ v, At8 W ab (ao + i * 8) v ∧ NV W.heap.size W t v) ∧ ((∀ q ∈ y7.1.weights Tryz.prog 35, q ≤ reachBytes) → shortN t) := by
      intro i hi
      have h1 := hel i hi
      rw [c8] at h1
      have hi' : i < elems.length := by omega
      rw [List.getElem?_eq_getElem hi'] at h1
      cases hc : W.cells? 0 ((⟨ab, ao, none⟩ : Addr).add (i * 8)) 8 with
      | none => rw [hc] at h1; cases h1
      | some cs'' =>
        rw [hc] at h1
        obtain ⟨t, d0, d1, d2, d3, d4, d5, d6, d7, e, hnv, hsh⟩ := ih n' (by omega) cs'' _ h1
        obtain ⟨_, _, hcell⟩ := World.cells?_some hc
        subst e
        have e0 := hcell 0 (by simp)
        have e1 := hcell 1 (by simp)
        have e2 := hcell 2 (by simp)
        have e3 := hcell 3 (by simp)
        have e4 := hcell 4 (by simp)
        have e5 := hcell 5 (by simp)
        have e6 := hcell 6 (by simp)
        have e7 := hcell 7 (by simp)
        rw [Go.Deep.add_add, Addr.add_lit] at e0 e1 e2 e3 e4 e5 e6 e7
        exact ⟨t, ⟨_, ⟨d0, d1, d2, d3, d4, d5, d6, d7, rfl, by simpa using e0, by simpa [Nat.add_assoc] using e1, by simpa [Nat.add_assoc] using e2, by simpa [Nat.add_assoc] using e3, by simpa [Nat.add_assoc] using e4, by simpa [Nat.add_assoc] using e5, by simpa [Nat.add_assoc] using e6, by simpa [Nat.add_assoc] using e7⟩, hnv⟩, fun hq => hsh fun q hm => hq q (by
          rw [hy7, DataW.weights, Tryz.underlying35]
          exact List.mem_cons_of_mem _ (List.mem_append_left _ (wall_mem (List.mem_map.2 ⟨_, List.getElem_mem hi', rfl⟩) hm)))⟩
    obtain ⟨tf, hT⟩ := choose_lt each
    refine ⟨.mk x0 x1 x2 x3 x4 x5 s ((List.range len).map tf), _, _, _, _, _, _, _, .slice (some ⟨ab, ao, none⟩) len cap, rfl, ?_, fun hq => ?_⟩
    rotate_left
    · rw [shortN]
      refine ⟨hname hq, shortL_of fun t ht => ?_⟩
      obtain ⟨i, hi, rfl⟩ := List.mem_map.1 ht
      refine (hT i (List.mem_range.1 hi)).2 fun q hm => hq q ?_
      rw [DataW.weights, Tryz.underlying37]
      exact DataW.weights_mem_each (j := 7) (t := 35) (d := y7.1) rfl rfl q hm
    have hlr : ((List.range len).map tf).length = len := by simp
    have := NV.shut (k := x0) (m := x1) (a := x2) (b := x3) (g := x4) (n := x5) (s := s) (ks := (List.range len).map tf) (sa := sa) (sc := sc) (ao := some ⟨ab, ao, none⟩) (cap := cap) (B := W.heap.size) (w := W) ⟨wf64 w0, wf64 w1, wf64 w2, wf64 w3⟩ w5 hs ⟨by rw [hlr]; exact hlc, hm, fun e => (by cases e)⟩ ?_
    · rw [hlr] at this; exact this
    · obtain ⟨⟨v0, h8, _⟩, _⟩ := hT 0 h0
      refine .inr ⟨ab, ao, rfl, ?_, fun i t hi => ?_⟩
      · obtain ⟨_, _, _, _, _, _, _, _, _, hz, _⟩ := h8
        exact World.block_lt_of_cell? W _ hz
      · rw [List.getElem?_map] at hi
        have hil : i < len := by
          rcases Nat.lt_or_ge i len with h' | h'
          · exact h'
          · rw [List.getElem?_eq_none (by simpa using h')] at hi; cases hi
        rw [List.getElem?_range hil] at hi
        obtain rfl : tf i = t := by simpa using hi
        exact (hT i hil).1

set_option maxRecDepth 100000 in
theorem open_short {H : Type} {enc : TypeId × Value → H} {W : World} {base : Nat} {v : Value} {d : DataW H} {p : List MemPlace}
    (hv : Value.okWide Tryz.prog W .any base 37 v) (h : DataW.Trod enc Tryz.prog W 0 (fun _ => true) true 37 v d p) (hq : ∀ q ∈ d.weights Tryz.prog 37, q ≤ reachBytes) :
    ∃ t : Nd, NV W.heap.size W t v ∧ shortN t := by
  obtain ⟨fuel, hf⟩ := h
  obtain ⟨t, c0, c1, c2, c3, c4, c5, c6, c7, e, hn, hs⟩ := open_short' fuel _ _ hf
  obtain ⟨cs, rfl, _⟩ := okWide_struct Tryz.underlying37 hv
  have hvv : cs = #[c0, c1, c2, c3, c4, c5, c6, c7] := by
    have : cs.toList = [c0, c1, c2, c3, c4, c5, c6, c7] := by simpa [Value.cells] using e
    exact Array.toList_inj.1 this
  subst hvv
  exact ⟨t, hn, hs hq⟩
/-- What the weights of all arguments say of one. -/
theorem sized_part {H : Type} {P : Program} {ts : List TypeId} {ds : List (DataW H)} (h : (DataW.weightsEach P ts ds).all (· ≤ reachBytes) = true) {j : Nat} {t : TypeId} {d : DataW H} (ht : ts[j]? = some t) (hd : ds[j]? = some d) : ∀ q ∈ d.weights P t, q ≤ reachBytes := fun q hq => by
  have := List.all_eq_true.1 h q (DataW.weights_mem_each ht hd q hq)
  simpa using this
set_option maxRecDepth 100000 in
/-- How options that came in read. -/
theorem open_opts {H : Type} {enc : TypeId × Value → H} {W : World} {base : Nat} {v : Value} {d : DataW H} {p : List MemPlace}
    (hv : Value.okWide Tryz.prog W .any base 24 v) (h : DataW.Trod enc Tryz.prog W 0 (fun _ => true) true 24 v d p) :
    ∃ (x y z : Bool) (f : Int), v = .agg #[.bool x, .bool y, .bool z, .int .i64 f] ∧ I64 f := by
  obtain ⟨fuel, hf⟩ := h
  obtain ⟨cs, rfl, _⟩ := okWide_struct Tryz.underlying24 hv
  obtain ⟨xs, n, hn, _, hl, hlen, hf⟩ := DataW.trod_struct Tryz.underlying24 hf
  have c4 : Tryz.prog.cellsOf 24 = 4 := by kernel_rfl
  rw [c4] at hl
  obtain ⟨c0, c1, c2, c3, hcs⟩ : ∃ c0 c1 c2 c3, cs.toList = [c0, c1, c2, c3] := by
    have : cs.toList.length = 4 := by simpa [Value.cells] using hl
    match hm : cs.toList, this with
    | [c0, c1, c2, c3], _ => exact ⟨c0, c1, c2, c3, rfl⟩
  obtain rfl : cs = #[c0, c1, c2, c3] := Array.toList_inj.1 hcs
  match xs, hlen with
  | [y0, y1, y2, y3], _ =>
  have ci : Tryz.prog.cellsOf 3 = 1 := by kernel_rfl
  have cb : Tryz.prog.cellsOf 4 = 1 := by kernel_rfl
  have g0 := hf 0 _ rfl
  have g1 := hf 1 _ rfl
  have g2 := hf 2 _ rfl
  have g3 := hf 3 _ rfl
  simp [ci, cb, Value.cells] at g0 g1 g2 g3
  obtain ⟨x0, hv0, _⟩ := DataW.trod_bool Tryz.underlying4 g0
  obtain ⟨x1, hv1, _⟩ := DataW.trod_bool Tryz.underlying4 g1
  obtain ⟨x2, hv2, _⟩ := DataW.trod_bool Tryz.underlying4 g2
  obtain ⟨x3, hv3, _, w3⟩ := DataW.trod_int Tryz.underlying3 g3
  obtain rfl : c0 = .bool x0 := by simpa using hv0
  obtain rfl : c1 = .bool x1 := by simpa using hv1
  obtain rfl : c2 = .bool x2 := by simpa using hv2
  obtain rfl : c3 = .int .i64 x3 := by simpa using hv3
  exact ⟨x0, x1, x2, x3, rfl, wf64 w3⟩
end Go.Proofs.YtpcnbamlmfmmpaaGreatDoor.cls
end

section
/- The sets of classes, plainly. -/
set_option linter.unusedVariables false
set_option linter.unusedSimpArgs false
namespace Go.Proofs.YtpcnbamlmfmmpaaGreatDoor.cls
open Go.RowKit
open Go.Proofs.YtpcnbamlmfmmpaaGreatDoor.rng (R has IsSet Sl code CanF)
open Go.Proofs.YtpcnbamlmfmmpaaGreatDoor.fld (sim IsClo)
open Go.Proofs.YtpcnbamlmfmmpaaGreatDoor.dcp (sinL fullL)
open Go.Proofs.YtpcnbamlmfmmpaaGreatDoor.nod

/-- r is the set of the code points of which P holds. -/
def IsP (r : List R) (P : Int → Prop) : Prop := CanF 0 r ∧ ∀ x, code x = true → (has r x = true ↔ P x)
theorem IsP.eq {r s : List R} {P Q : Int → Prop} (h1 : IsP r P) (h2 : IsP s Q) (h : ∀ x, code x = true → (P x ↔ Q x)) : r = s := by
  refine rng.can_ext r s 0 (Int.le_refl _) h1.1 h2.1 (fun x => ?_)
  cases hc : code x
  · simp [has, hc]
  · rw [Bool.eq_iff_iff, h1.2 x hc, h2.2 x hc, h x hc]
theorem IsP.congr {r : List R} {P Q : Int → Prop} (h : IsP r P) (e : ∀ x, code x = true → (P x ↔ Q x)) : IsP r Q := ⟨h.1, fun x hx => (h.2 x hx).trans (e x hx)⟩
theorem isP_set {r : List R} {f : Int → Bool} {P : Int → Prop} (h : IsSet r f) (e : ∀ x, code x = true → (f x = true ↔ P x)) : IsP r P := ⟨h.1, fun x hx => by rw [h.2 x hx]; exact e x hx⟩
theorem IsP.len {r : List R} {P : Int → Prop} (h : IsP r P) : r.length ≤ 557056 := rng.can_len h.1

/-- P with what canonical equivalence brings. -/
def withP (c : Bool) (P : Int → Prop) (x : Int) : Prop := P x ∨ (c = true ∧ ∃ r ∈ sinL, P r ∧ x ∈ fullL r)
/-- P with what folding brings besides. -/
def wideP (c : Bool) (fo : Int) (P : Int → Prop) (x : Int) : Prop := if fo = 0 then withP c P x else ∃ y, code y = true ∧ withP c P y ∧ sim y = sim x
def negP (g : Bool) (P : Int → Prop) (x : Int) : Prop := if g = true then ¬ P x else P x
def anyP (d : Bool) (x : Int) : Prop := d = true ∨ ¬ has [(10, 10), (13, 13), (133, 133), (8232, 8233)] x = true
def exprs (n : ByteArray) : List ByteArray :=
  if n = ⟨#[100]⟩ then [⟨#[103, 99, 61, 78, 100]⟩]
  else if n = ⟨#[119]⟩ then [⟨#[103, 99, 61, 76]⟩, ⟨#[103, 99, 61, 77]⟩, ⟨#[103, 99, 61, 78, 108]⟩, ⟨#[103, 99, 61, 78, 100]⟩, ⟨#[103, 99, 61, 80, 99]⟩]
  else if n = ⟨#[115]⟩ then [⟨#[115, 112, 97, 99, 101]⟩]
  else [n]
def firstE : List Int → Int
  | [] => 0
  | e :: l => if e = 0 then firstE l else e
def propP (n : ByteArray) (x : Int) : Prop := ∃ s ∈ exprs n, prp.setP (nam.resolveV s) x = true
def propE (n : ByteArray) : Int := firstE ((exprs n).map fun s => (nam.resolveV s).2.2)
def combP (m : Int) (Ps : List (Int → Prop)) (x : Int) : Prop :=
  if m = 1 ∨ m = 2 ∨ m = 3 then
    (match Ps with
    | [P, Q] => if m = 1 then P x ∧ Q x else if m = 2 then P x ∧ ¬ Q x else ¬ (P x ↔ Q x)
    | _ => False)
  else ∃ P ∈ Ps, P x
/-- The error of a node's set, the first one. -/
def errN : Nat → Nd → Int
  | 0, _ => 0
  | N + 1, t => if t.kind = 5 then propE t.name else if t.kind = 3 then firstE (t.kids.map (errN N)) else 0
/-- What a node's set has. -/
def fitN (c : Bool) (fo : Int) (d : Bool) : Nat → Nd → Int → Prop
  | 0, _ => fun _ => False
  | N + 1, t =>
    if t.kind = 1 then wideP c fo (fun x => x = t.a)
    else if t.kind = 4 then wideP c fo (fun x => t.a ≤ x ∧ x ≤ t.b)
    else if t.kind = 5 then negP t.neg (wideP c fo (propP t.name))
    else if t.kind = 3 then negP t.neg (combP t.mode (t.kids.map (fitN c fo d N)))
    else anyP d
def leafK (k : Int) : Bool := k == 1 || k == 4 || k == 5 || k == 2
def classK (m : Int) (n : Nat) : Bool := m == 0 || ((m == 1 || m == 2 || m == 3) && n == 2)
/-- Whether a node, and all below it, have sets. -/
def canN : Nat → Nd → Bool
  | 0, _ => false
  | N + 1, t => t.kids.all (canN N) && (leafK t.kind || (t.kind == 3 && classK t.mode t.kids.length))
theorem firstE_cons0 {e : Int} {l : List Int} (h : e = 0) : firstE (e :: l) = firstE l := by rw [firstE, if_pos h]
theorem firstE_cons {e : Int} {l : List Int} (h : ¬ e = 0) : firstE (e :: l) = e := by rw [firstE, if_neg h]
theorem firstE_zero : ∀ l : List Int, (∀ e ∈ l, e = 0) → firstE l = 0
  | [], _ => rfl
  | e :: l, h => by rw [firstE_cons0 (h e (by simp))]; exact firstE_zero l (fun x hx => h x (by simp [hx]))
def cat (ls : List (List R)) : List R := ls.flatten
theorem has_cat (ls : List (List R)) (x : Int) : has (cat ls) x = true ↔ ∃ l ∈ ls, has l x = true := by
  induction ls with
  | nil => simp [cat, has]
  | cons l ls ih =>
    show has (l ++ cat ls) x = true ↔ _
    rw [rng.has_append, Bool.or_eq_true, ih]
    simp
theorem cat_snoc (ls : List (List R)) (l : List R) : cat (ls ++ [l]) = cat ls ++ l := by simp [cat]
theorem cat_len {ls : List (List R)} {k : Nat} (h : ∀ l ∈ ls, l.length ≤ k) : (cat ls).length ≤ ls.length * k := by
  induction ls with
  | nil => simp [cat]
  | cons l ls ih =>
    show (l ++ cat ls).length ≤ _
    have h1 := h l (by simp)
    have h2 := ih (fun x hx => h x (by simp [hx]))
    rw [List.length_append, List.length_cons, Nat.succ_mul]
    omega
theorem has_span (a b x : Int) : has [(a, b)] x = true ↔ code x = true ∧ a ≤ x ∧ x ≤ b := by
  rw [rng.has_iff]
  simp
/-- The singles that a set has, each as another one. -/
def addL (a : List R) (l : List Int) : List (List R) := l.flatMap fun r => if has a r = true then (fullL r).map (fun y => [(y, y)]) else []
theorem addL_snoc (a : List R) (l : List Int) (r : Int) : addL a (l ++ [r]) = addL a l ++ (if has a r = true then (fullL r).map (fun y => [(y, y)]) else []) := by simp [addL]
theorem mem_addL (a : List R) (l : List Int) (s : List R) : s ∈ addL a l ↔ ∃ r ∈ l, has a r = true ∧ ∃ y ∈ fullL r, s = [(y, y)] := by
  unfold addL
  rw [List.mem_flatMap]
  constructor
  · rintro ⟨r, hr, hs⟩
    by_cases h : has a r = true
    · rw [if_pos h] at hs
      obtain ⟨y, hy, rfl⟩ := List.mem_map.1 hs
      exact ⟨r, hr, h, y, hy, rfl⟩
    · rw [if_neg h] at hs; cases hs
  · rintro ⟨r, hr, h, y, hy, rfl⟩
    exact ⟨r, hr, by rw [if_pos h]; exact List.mem_map.2 ⟨y, hy, rfl⟩⟩
theorem sin_code : ∀ r ∈ sinL, code r = true := fun r hr => (rng.code_iff r).2 (dcp.sin_facts.2.2 r hr).2.2
theorem wide_cat {a : List R} {P : Int → Prop} (c : Bool) (hP : ∀ x, code x = true → (has a x = true ↔ P x)) (x : Int) (hx : code x = true) : has (cat (a :: addL a (if c = true then sinL else []))) x = true ↔ withP c P x := by
  rw [has_cat]
  unfold withP
  constructor
  · rintro ⟨l, hl, h⟩
    rcases List.mem_cons.1 hl with rfl | hl
    · exact .inl ((hP x hx).1 h)
    · obtain ⟨r, hr, ha, y, hy, rfl⟩ := (mem_addL _ _ _).1 hl
      cases c with
      | false => cases hr
      | true =>
        rw [if_pos rfl] at hr
        have := (has_span y y x).1 h
        obtain rfl : x = y := by omega
        exact .inr ⟨rfl, r, hr, (hP r (sin_code r hr)).1 ha, hy⟩
  · rintro (h | ⟨rfl, r, hr, h1, h2⟩)
    · exact ⟨a, by simp, (hP x hx).2 h⟩
    · refine ⟨[(x, x)], List.mem_cons.2 (.inr ((mem_addL _ _ _).2 ⟨r, by rw [if_pos rfl]; exact hr, (hP r (sin_code r hr)).2 h1, x, h2, rfl⟩)), (has_span x x x).2 ⟨hx, Int.le_refl _, Int.le_refl _⟩⟩
theorem wide_plain {a r : List R} {P : Int → Prop} {c : Bool} (hP : ∀ x, code x = true → (has a x = true ↔ P x)) (h : IsSet r (has (cat (a :: addL a (if c = true then sinL else []))))) : IsP r (wideP c 0 P) :=
  isP_set h (fun x hx => by rw [wide_cat c hP x hx]; unfold wideP; rw [if_pos rfl])
theorem wide_clo {a r s : List R} {P : Int → Prop} {c : Bool} {fo : Int} (hf : ¬ fo = 0) (hP : ∀ x, code x = true → (has a x = true ↔ P x)) (h : IsSet r (has (cat (a :: addL a (if c = true then sinL else []))))) (hs : IsClo s r) : IsP s (wideP c fo P) := by
  refine ⟨hs.1, fun x hx => ?_⟩
  rw [hs.2 x hx]
  unfold wideP
  rw [if_neg hf]
  constructor
  · rintro ⟨y, hy, e⟩
    have hc := rng.has_code hy
    rw [h.2 y hc] at hy
    exact ⟨y, hc, (wide_cat c hP y hc).1 hy, e⟩
  · rintro ⟨y, hc, hy, e⟩
    exact ⟨y, by rw [h.2 y hc]; exact (wide_cat c hP y hc).2 hy, e⟩
end Go.Proofs.YtpcnbamlmfmmpaaGreatDoor.cls
end

section
/- Rows of sets in memory; span, turned; slices.Grow and slices.Concat of any number of rows of ranges; join. -/
set_option linter.unusedVariables false
set_option linter.unusedSimpArgs false
namespace Go.Proofs.YtpcnbamlmfmmpaaGreatDoor.cls
open Go.Shelf Go.RowKit Go.Lib Go.Proofs
open Go.Proofs.YtpcnbamlmfmmpaaGreatDoor.rng (R has IsSet Sl code CanF flat RV)
open Go.Proofs.YtpcnbamlmfmmpaaGreatDoor.nod

theorem infoSets : (Tryz.prog.info? 22).map (fun i => (i.zero, i.size, i.bytes)) = some (some (.slice none 0 0), 1, 24) := by kernel_rfl
abbrev St2 := Value × List R
/-- v is a row of the call's own, of sets that are rows of its own. -/
structure SO (w : World) (B A : Nat) (v : Value) (L : List St2) : Prop where
  row : w.ownsRow B 22 1 v L.length (L.map Prod.fst)
  each : ∀ q ∈ L, rng.Own w A q.1 q.2
theorem SO.nil (w : World) (B A : Nat) : SO w B A (.slice none 0 0) [] := ⟨World.ownsRow_nil _ _ _ _, fun t h => (by cases h)⟩
theorem SO.below {w w' : World} {B A : Nat} {v : Value} {L : List St2} (h : SO w B A v L) (hb : Below w.heap.size w w') : SO w' B A v L := ⟨rng.own_below' h.row hb, fun t ht => (h.each t ht).below hb⟩
theorem SO.alloc {w : World} {B A : Nat} {v : Value} {L : List St2} (h : SO w B A v L) (o : Obj) : SO (w.alloc o) B A v L := h.below ((Below.refl _ _).alloc (Nat.le_refl _) o)
theorem SO.snoc {w w' : World} {B A : Nat} {v v' : Value} {L : List St2} (h : SO w B A v L) (x : Value) (t : List R) (hrow : w'.ownsRow B 22 1 v' (L.length + 1) (L.map Prod.fst ++ [x])) (hg : w.grownBy w' v.ownBlock) (hx : rng.Own w A x t) : SO w' B A v' (L ++ [(x, t)]) := by
  refine ⟨by rw [List.length_append, List.map_append]; exact hrow, fun q hq => ?_⟩
  rcases List.mem_append.1 hq with hq | hq
  · exact World.ownsRow.kept (h.each q hq) hg (rng.own_apart (h.each q hq) h.row (by decide))
  · obtain rfl : q = (x, t) := by simpa using hq
    exact World.ownsRow.kept hx hg (rng.own_apart hx h.row (by decide))
theorem own_sl {w : World} {B : Nat} {v : Value} {l : List R} (h : rng.Own w B v l) : ∃ a c, v = .slice a l.length c := by
  obtain ⟨a, c, e, _⟩ := h.view
  exact ⟨a, c, e⟩
theorem one_set (w : World) (x : Value) : ∀ (j : Nat) (u : Value), [x][j]? = some u → (w.alloc (Obj.cells #[x] 22)).cell? ((⟨w.heap.size, 0, none⟩ : Addr).add j) = some u := by
  intro j u hj
  match j, hj with
  | 0, hj => simp at hj; subst hj; simp [Addr.add]
  | k + 1, hj => simp at hj
theorem one_cell (a : Option Addr) (n c : Nat) : ∀ u ∈ [Value.slice a n c], u.oneCell' = true := by
  intro u hu
  simp at hu; subst hu; rfl
/-- A row of one set. -/
theorem SO.one {w : World} {A : Nat} {v : Value} {l : List R} (h : rng.Own w A v l) : SO (w.alloc (.cells #[v] 22)) w.heap.size A (.slice (some ⟨w.heap.size, 0, none⟩) 1 1) [(v, l)] := by
  refine ⟨?_, fun q hq => ?_⟩
  · obtain ⟨a, c, rfl⟩ := own_sl h
    exact ⟨rfl, .inr ⟨w.heap.size, 1, #[.slice a l.length c], rfl, Nat.le_refl _, World.alloc_heap_new _ _, Nat.le_refl _, by decide, by simp, by simp⟩⟩
  · obtain rfl : q = (v, l) := by simpa using hq
    exact h.below ((Below.refl _ _).alloc (Nat.le_refl _) _)
theorem own_mn {w : World} {B B' : Nat} {v : Value} {l : List R} (h : rng.Own w B v l) (hB : B' ≤ B) : rng.Own w B' v l := rng.own_mono h hB
/-- Set number j of a row. -/
theorem SO.at_ {w : World} {B A : Nat} {v : Value} {L : List St2} (h : SO w B A v L) {j : Nat} {q : St2} (hj : L[j]? = some q) : ∃ b c, v = .slice (some ⟨b, 0, none⟩) L.length c ∧ w.cell? ⟨b, j, none⟩ = some q.1 ∧ rng.Own w A q.1 q.2 := by
  have hl : j < L.length := (List.getElem?_eq_some_iff.1 hj).1
  have hq := h.each q (List.mem_of_getElem? hj)
  rcases h.row.2 with ⟨_, h0⟩ | ⟨g, cap, cur, rfl, hg, hgg, rest⟩
  · omega
  · refine ⟨g, cap, rfl, ?_, hq⟩
    have := h.row.cellAt j (by omega)
    rw [this, List.getElem?_map, hj]
    rfl

theorem grow_zero (w : World) : Calls Tryz.prog 189 #[.slice none 0 0, .int .i64 0] w fun e w' => e = .returned (.slice none 0 0) ∧ w' = w := by
  go_enter Tryz.func189, Tryz.ntmps189
  go_wp2
  go_ret
  exact ⟨rfl, rfl⟩
set_option maxHeartbeats 400000 in
set_option maxRecDepth 1000000 in
theorem grow_pos (n : Nat) (w : World) (h0 : 0 < n) (hn : n ≤ 200000000) :
    Calls Tryz.prog 189 #[.slice none 0 0, .int .i64 n] w fun e w' => ∃ v, e = .returned v ∧ w'.ownsRow w.heap.size 44 2 v 0 [] ∧ Below w.heap.size w w' := by
  obtain ⟨i0, hi, hz0, hz1, hz2⟩ := rng.info_parts rng.infoRange
  have hold : (Builtin.firstCells i0.size 0 (.slice none 0 0)).run Tryz.prog w.drew = .ok ([] : List Value).toArray w.drew := run_firstCells_none w.drew i0.size 0 0 0
  have hrz : ∀ ty, (Builtin.append_ #[22, 3] ty #[.slice none 0 0, .int .i64 (n : Int)]).run Tryz.prog w =
      .ok (.slice (some ⟨w.heap.size, 0, none⟩) n (grownCap w n 0 44)) (w.drew.alloc (.cells (([] : List Value).toArray ++ Builtin.zeroCells (Value.agg #[.int .i64 0, .int .i64 0]).cells n ++ Builtin.zeroCells (Value.agg #[.int .i64 0, .int .i64 0]).cells (grownCap w n 0 44 - n)) 44)) := fun ty => by
    have h := Lib.run_append_grow_zeros w 22 3 ty 44 i0 (.agg #[.int .i64 0, .int .i64 0]) .i64 .i64 Tryz.underlying22 Tryz.underlying3 hi hz0 none 0 0 [] hold n (by omega) (by omega) (by omega) (by omega)
      (by rw [hz2]; omega)
      (by rw [Nat.zero_add]; exact growslice_fits h0 (by rw [hz2]; omega))
    simpa using h
  have hGn : n ≤ grownCap w n 0 44 := grownCap_ge w _ _ _
  have hG63 := grownCap_le_maxLen w n 0 44 (by unfold maxLen; omega)
  have hp : (0 : Int) < (n : Int) := by omega
  generalize grownCap w n 0 44 = G at *
  have HO : Hid ((w.alloc (.cells (Builtin.zeroCells #[.int .i64 0, .int .i64 0] n ++ Builtin.zeroCells #[.int .i64 0, .int .i64 0] (G - n)) 44)).drew.ownsRow w.heap.size 44 2 (.slice (some ⟨w.heap.size, 0, none⟩) 0 G) 0 []) :=
    (World.ownsRow_made (base := w.heap.size) (e := 44) (size := 2) w _ G (Nat.le_refl _) hG63 (by simp [Builtin.zeroCells]; omega)).drew
  clear hold
  have hGb : G ≤ 9223372036854775807 := by unfold maxLen at hG63; omega
  go_enter Tryz.func189, Tryz.ntmps189
  go_wp2_with (at_builtin; refine Lib.wpList_append_run _ rfl _ _ _ _ rfl _ _ rfl rfl _ _ (hrz _) ?_)
  all_goals go_ret
  all_goals exact ⟨_, rfl, HO.out, ((Below.refl _ _).alloc (Nat.le_refl _) _).drew⟩
theorem grow_any (n : Nat) (w : World) (hn : n ≤ 200000000) :
    Calls Tryz.prog 189 #[.slice none 0 0, .int .i64 n] w fun e w' => ∃ v, e = .returned v ∧ rng.Own w' w.heap.size v [] ∧ Below w.heap.size w w' := by
  rcases Nat.eq_zero_or_pos n with rfl | h
  · refine (grow_zero w).mono ?_
    rintro e w' ⟨rfl, rfl⟩
    exact ⟨_, rfl, World.ownsRow_nil _ _ _ _, Below.refl _ _⟩
  · exact grow_pos n w h hn
/-- append(dst, src...), dst the call's own, src an own row, nil or not. -/
theorem wpList_append_rng {w : World} {ops : Array Oper} {rest : List Oper} {o : Oper} {a : Act} {Q : Exit → Act → World → Prop} (hgd : o.guard = none) (s x : Operand)
    (ho : o.op = .call { callee := .builtin .append, args := #[s, x], argTypes := #[22, 22] })
    (base A : Nat) (i : TypeInfo) (hi : Tryz.prog.info? 44 = some i) (hz : i.zero = some (.agg #[.int .i64 0, .int .i64 0])) (hsize : i.size = 2) (hby : i.bytes = 16)
    (v y : Value) (l m : List R) (hs : a.eval s = v) (hown : rng.Own w base v l) (hx : a.eval x = y) (hy : rng.Own w A y m)
    (h63 : l.length + m.length ≤ 200000000) (hbase : base ≤ w.heap.size)
    (h : ∀ v' w', rng.Own w' base v' (l ++ m) → w.grownBy w' v.ownBlock → wpList Tryz.prog ops Q rest (a.put o.dst v') w') : wpList Tryz.prog ops Q (o :: rest) a w := by
  have hm : maxLen = 9223372036854775807 := rfl
  rcases hy.2 with ⟨e, h0⟩ | ⟨g, cap, cur, e, hg, hgg, hc, hcm, hsz, ht⟩
  · obtain rfl : m = [] := List.eq_nil_of_length_eq_zero h0
    subst e
    refine wpList_append_own_none hgd s x 22 ho base 44 i 2 Tryz.underlying22 hi v l.length (flat l) hs hown hx (h v w ?_ ⟨rfl, rfl, rfl, Nat.le_refl _, fun _ _ _ => rfl⟩)
    rw [List.append_nil]; exact hown
  · subst e
    refine wpList_append_own w hgd s x 22 ho base 44 i (.agg #[.int .i64 0, .int .i64 0]) 2 16 Tryz.underlying22 hi hz hsize hby rfl (by decide) v l.length (flat l) hs hown ⟨g, 0, none⟩ m.length cap (flat m) hx (rng.flat_length m) (fun j u hj => ?_) (rng.flat_one m) (by omega) (by omega) hbase (fun v' w' h2 h3 _ => h v' w' ?_ h3)
    · have hj2 : j < m.length * 2 := by
        have := (List.getElem?_eq_some_iff.1 hj).1
        rw [rng.flat_length] at this
        exact this
      have h' : w.ownsRow A 44 2 (.slice (some ⟨g, 0, none⟩) m.length cap) m.length (flat m) := hy
      rw [Addr.add_lit, Nat.zero_add, h'.cellAt j hj2]
      exact hj
    · show w'.ownsRow base 44 2 v' (l ++ m).length (flat (l ++ m))
      rw [List.length_append, rng.flat_append]
      exact h2
end Go.Proofs.YtpcnbamlmfmmpaaGreatDoor.cls
end

section
/- slices.Concat of any number of rows of ranges; span, turned, join, anything. -/
set_option linter.unusedVariables false
set_option linter.unusedSimpArgs false
namespace Go.Proofs.YtpcnbamlmfmmpaaGreatDoor.cls
open Go.Shelf Go.RowKit Go.Lib Go.Proofs
open Go.Proofs.YtpcnbamlmfmmpaaGreatDoor.rng (R has IsSet Sl code CanF flat RV)
open Go.Proofs.YtpcnbamlmfmmpaaGreatDoor.nod

def catL (L : List St2) : List R := cat (L.map Prod.snd)
theorem catL_take {L : List St2} {k : Nat} {q : St2} (h : L[k]? = some q) : catL (L.take (k + 1)) = catL (L.take k) ++ q.2 := by
  unfold catL
  rw [takeX h, List.map_append]
  exact cat_snoc _ _
theorem catL_snoc (L : List St2) (x : Value) (t : List R) : catL (L ++ [(x, t)]) = catL L ++ t := by
  unfold catL
  rw [List.map_append]
  exact cat_snoc _ _
theorem catL_le (L : List St2) (k : Nat) : (catL (L.take k)).length ≤ (catL L).length := by
  conv => rhs; rw [← List.take_append_drop k L]
  unfold catL cat
  rw [List.map_append, List.flatten_append, List.length_append]
  omega
set_option maxHeartbeats 1000000 in
set_option maxRecDepth 1000000 in
theorem concat_any (B A : Nat) (v : Value) (L : List St2) (w : World) (h : SO w B A v L) (hn : L.length ≤ 100000) (hc : (catL L).length ≤ 200000000) :
    Calls Tryz.prog 155 #[v] w fun e w' => ∃ v', e = .returned v' ∧ rng.Own w' w.heap.size v' (catL L) ∧ Below w.heap.size w w' := by
  obtain ⟨i0, hi, hz0, hz1, hz2⟩ := rng.info_parts rng.infoRange
  obtain ⟨a, c, rfl⟩ := lin.own_slice h.row
  obtain ⟨n, hnl⟩ : ∃ n, L.length = n := ⟨_, rfl⟩
  have HL : Hid (L.length = n) := hnl
  have HS : Hid (SO w B A (.slice a n c) L) := by show SO _ _ _ _ _; rw [← hnl]; exact h
  have HC : Hid ((catL L).length ≤ 200000000) := hc
  have HG : Hid (∀ m : Nat, m ≤ 200000000 → ∀ w, Calls Tryz.prog 189 #[.slice none 0 0, .int .i64 m] w fun e w' => ∃ v, e = .returned v ∧ rng.Own w' w.heap.size v [] ∧ Below w.heap.size w w') := fun m hm w => grow_any m w hm
  rw [hnl] at hn ⊢
  clear h hc hnl
  go_enter Tryz.func155, Tryz.ntmps155
  go_wp2
  go_loopw [3, 11] (fun u i wr => ∃ k m : Nat, k ≤ n ∧ m ≤ 200000000 ∧ i = .int .i64 k ∧ u = .int .i64 m ∧ Hid (m = (catL (L.take k)).length) ∧ Hid (Below w.heap.size w wr)) (fun _ i _ => n - (RowKit.intOf i).toNat)
  case atStart => exact ⟨0, 0, Nat.zero_le _, Nat.zero_le _, rfl, rfl, rfl, Below.refl _ _⟩
  case round =>
    obtain ⟨k, m, hk, hm, rfl, rfl, HM, HB1⟩ := hrel
    by_cases hlt : k < n
    · have hlt' : (k : Int) < (n : Int) := by omega
      obtain ⟨q, hq⟩ := getX HL.out hlt
      obtain ⟨b, c', e1, hcell, hown⟩ := (HS.out.below HB1.out).at_ hq
      injection e1 with e1 e2 e3
      subst e1 e3
      obtain ⟨qa, qc, hqv⟩ := own_sl hown
      rw [hqv] at hcell
      have hle := catL_le L (k + 1)
      rw [catL_take hq, List.length_append] at hle
      have hm2 : m + q.2.length ≤ 200000000 := by have := HC.out; have := HM.out; omega
      have HM2 : Hid (m + q.2.length = (catL (L.take (k + 1))).length) := by show _ = _; rw [catL_take hq, List.length_append, ← HM.out]
      clear hle hq hown hqv e2
      generalize q.2.length = ql at *
      have hs0 : ¬ ((m : Int) + (ql : Int) < 0) := by omega
      go_wp2
      go_roundw
      case rel => exact ⟨k + 1, m + ql, by omega, hm2, by go_num, by go_num, HM2, HB1⟩
      case measure => simp [RowKit.intOf]; omega
    · obtain rfl : k = n := by omega
      have hlt' : ¬ (k : Int) < (k : Int) := by omega
      have C := HG.out m hm wr
      clear HG HM hlt
      go_wp2_with fail
      refine C.mono ?_
      rintro e w1 ⟨v1, rfl, o1, b1⟩
      clear C
      have HO1 : Hid (rng.Own w1 w.heap.size v1 []) := own_mn o1 HB1.out.size
      have HB2 : Hid (Below w.heap.size w w1) := HB1.out.trans (b1.mono HB1.out.size)
      clear o1 b1 HB1 hm
      go_wp2
      go_loopw [6, 27] (fun u i wz => ∃ j : Nat, j ≤ k ∧ i = .int .i64 j ∧ Hid (rng.Own wz w.heap.size u (catL (L.take j))) ∧ Hid (Below w.heap.size w wz)) (fun _ i _ => k - (RowKit.intOf i).toNat)
      case atStart => exact ⟨0, Nat.zero_le _, rfl, HO1, HB2⟩
      case round =>
        clear HO1 HB2
        obtain ⟨j, hj, rfl, HO, HB⟩ := hrel
        by_cases hjt : j < k
        · have hjt' : (j : Int) < (k : Int) := by omega
          obtain ⟨q, hq⟩ := getX HL.out hjt
          obtain ⟨b, c', e1, hcell, hown⟩ := (HS.out.below HB.out).at_ hq
          injection e1 with e1 e2 e3
          subst e1 e3
          have hle := catL_le L (j + 1)
          rw [catL_take hq, List.length_append] at hle
          have hl2 : (catL (L.take j)).length + q.2.length ≤ 200000000 := by have := HC.out; omega
          have HT : Hid (catL (L.take (j + 1)) = catL (L.take j) ++ q.2) := catL_take hq
          have hsz := HB.out.size
          have HQ : Hid (rng.Own wr A q.1 q.2) := hown
          obtain ⟨ql, hql⟩ : ∃ x, q.1 = x := ⟨_, rfl⟩
          rw [hql] at hcell HQ
          clear hle hq hown e2 hql
          go_wp2_with (at_builtin; refine wpList_append_rng rfl _ _ rfl w.heap.size A i0 hi hz0 hz1 hz2 _ _ _ _ rfl HO.out rfl HQ.out hl2 hsz ?_)
          intro v' w3 hown3 hgrow
          have R1 : Hid (Below w.heap.size w w3) := Below.grown HB.out hgrow HB.out.size (fun k e => (HO.out.lt k e).1)
          have R2 : Hid (rng.Own w3 w.heap.size v' (catL (L.take (j + 1)))) := by show rng.Own _ _ _ _; rw [HT.out]; exact hown3
          clear hgrow hown3 HO HB HQ HT hl2
          go_wp2
          go_roundw
          case rel => exact ⟨j + 1, by omega, by go_num, R2, R1⟩
          case measure => simp [RowKit.intOf]; omega
        · obtain rfl : j = k := by omega
          have hjt' : ¬ (j : Int) < (j : Int) := by omega
          have HF : Hid (rng.Own wr w.heap.size u6 (catL L)) := by
            have q := HO.out
            rw [List.take_of_length_le (by rw [HL.out]; exact Nat.le_refl _)] at q
            exact q
          clear HO
          go_wp2
          go_ret
          exact ⟨_, rfl, HF.out, HB.out⟩
theorem span_any (a b : Int) (w : World) : Calls Tryz.prog 82 #[.int .i64 a, .int .i64 b] w fun e w' => e = .returned (.slice (some ⟨w.heap.size, 0, none⟩) 1 1) ∧ w' = w.alloc (.cells #[.int .i64 a, .int .i64 b] 44) := by
  go_enter Tryz.func82, Tryz.ntmps82
  go_wp2
  go_ret
  exact ⟨rfl, rfl⟩
theorem span_own (a b : Int) (w : World) : rng.Own (w.alloc (.cells #[.int .i64 a, .int .i64 b] 44)) w.heap.size (.slice (some ⟨w.heap.size, 0, none⟩) 1 1) [(a, b)] := prp.lit_own w [(a, b)] _ rfl (by simp)
theorem span_o (a b : Int) (w : World) : Calls Tryz.prog 82 #[.int .i64 a, .int .i64 b] w fun e w' => ∃ v, e = .returned v ∧ rng.Own w' w.heap.size v [(a, b)] ∧ Below w.heap.size w w' := by
  refine (span_any a b w).mono ?_
  rintro e w' ⟨rfl, rfl⟩
  exact ⟨_, rfl, span_own a b w, (Below.refl _ w).alloc (Nat.le_refl _) _⟩
theorem join_any (B A : Nat) (v : Value) (L : List St2) (w : World) (h : SO w B A v L) (hn : L.length ≤ 100000) (hc : (catL L).length ≤ 200000000) :
    Calls Tryz.prog 118 #[v] w fun e w' => ∃ v' r, e = .returned v' ∧ rng.Own w' w.heap.size v' r ∧ IsSet r (has (catL L)) ∧ Below w.heap.size w w' := by
  have C := concat_any B A v L w h hn hc
  obtain ⟨a, c, rfl⟩ := lin.own_slice h.row
  have HC : Hid ((catL L).length ≤ 200000000) := hc
  clear h hc
  generalize L.length = n at *
  go_enter Tryz.func118, Tryz.ntmps118
  go_wp2_with fail
  refine C.mono ?_
  rintro e w1 ⟨v1, rfl, o1, b1⟩
  clear C
  obtain ⟨xa, xc, hx, hrv, _, _⟩ := o1.view
  subst hx
  have C := rng.make_any xa xc (catL L) w1 HC.out hrv
  clear o1 hrv
  generalize (catL L).length = m at *
  go_wp2_with fail
  refine C.mono ?_
  rintro e w2 ⟨v2, r, rfl, o2, hr, b2⟩
  clear C
  have H2 : Hid (rng.Own w2 w.heap.size v2 r) := own_mn o2 b1.size
  have HR : Hid (IsSet r (has (catL L))) := hr
  have HB : Hid (Below w.heap.size w w2) := b1.trans (b2.mono b1.size)
  obtain ⟨ya, yc, hy⟩ := own_sl o2
  subst hy
  clear o2 hr b1 b2
  generalize r.length = k at *
  go_wp2
  go_ret
  exact ⟨_, r, rfl, H2.out, HR.out, HB.out⟩
theorem neg_set {r s : List R} {P : Int → Prop} (h : IsP r P) (hs : IsSet s (fun x => !has r x)) : IsP s (negP true P) := by
  refine isP_set hs (fun x hx => ?_)
  unfold negP
  rw [if_pos rfl, ← h.2 x hx]
  simp
theorem turned_any (A : Nat) (v : Value) (r : List R) (g : Bool) (P : Int → Prop) (w : World) (ho : rng.Own w A v r) (hA : A ≤ w.heap.size) (hP : IsP r P) :
    Calls Tryz.prog 122 #[v, .bool g] w fun e w' => ∃ v' r', e = .returned v' ∧ rng.Own w' A v' r' ∧ IsP r' (negP g P) ∧ Below w.heap.size w w' := by
  have hl := hP.len
  obtain ⟨xa, xc, hx, hrv, _, _⟩ := ho.view
  subst hx
  have HO : Hid (rng.Own w A (.slice xa r.length xc) r) := ho
  have HP : Hid (IsP r P) := hP
  cases g with
  | false =>
    clear ho hrv hP hl
    generalize r.length = n at *
    go_enter Tryz.func122, Tryz.ntmps122
    go_wp2
    go_ret
    refine ⟨_, r, rfl, HO.out, HP.out.congr (fun x _ => ?_), Below.refl _ _⟩
    unfold negP
    rw [if_neg (by decide)]
  | true =>
    have C := rng.not_any xa xc r w (by omega) hrv
    clear ho hrv hP hl
    generalize r.length = n at *
    go_enter Tryz.func122, Tryz.ntmps122
    go_wp2_with fail
    refine C.mono ?_
    rintro e w2 ⟨v2, s, rfl, o2, hs, b2⟩
    clear C
    have H2 : Hid (rng.Own w2 A v2 s) := own_mn o2 hA
    have H3 : Hid (IsP s (negP true P)) := neg_set HP.out hs
    obtain ⟨ya, yc, hy⟩ := own_sl o2
    subst hy
    clear o2 hs HO HP
    generalize s.length = k at *
    go_wp2
    go_ret
    exact ⟨_, s, rfl, H2.out, H3.out, b2⟩
end Go.Proofs.YtpcnbamlmfmmpaaGreatDoor.cls
end
