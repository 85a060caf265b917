/- Texts that the proof leans on, one behind the other. -/
import Derived.Test.YtjbcapnpknbbaaaGreatBndLowPl1
import Derived.Test.YtjbcapnpknbbaaaGreatBndNodMem
import Derived.Maps.AppendAt
import Derived.Laws.AppendOwnNone

section
/- Rows of instructions in memory, and a piece in the making. -/
set_option linter.unusedVariables false
set_option linter.unusedSimpArgs false
namespace Go.Proofs.YtjbcapnpknbbaaaGreat.cmp
open Go.RowKit nod
open Go.Proofs.YtjbcapnpknbbaaaGreat.rng (R RV info_parts)

/-- A slice as a value has it. -/
abbrev SV : Type := Option Addr × Nat × Nat
def sv (s : SV) : Value := .slice s.1 s.2.1 s.2.2
def cells6 (i : Is SV) : List Value := [.int .i64 i.op, .int .i64 i.x, .int .i64 i.y, .int .i64 i.mn, .int .i64 i.mx, sv i.set]
def agg6 (i : Is SV) : Value := .agg #[.int .i64 i.op, .int .i64 i.x, .int .i64 i.y, .int .i64 i.mn, .int .i64 i.mx, sv i.set]
def flat6 (l : List (Is SV)) : List Value := l.flatMap cells6
theorem flat6_cons (i : Is SV) (l : List (Is SV)) : flat6 (i :: l) = cells6 i ++ flat6 l := rfl
theorem flat6_append (l r : List (Is SV)) : flat6 (l ++ r) = flat6 l ++ flat6 r := by simp [flat6]
theorem flat6_length (l : List (Is SV)) : (flat6 l).length = l.length * 6 := by
  induction l with
  | nil => rfl
  | cons x l ih => rw [flat6_cons]; simp [cells6]; omega
theorem flat6_get : ∀ (l : List (Is SV)) (k : Nat) (i : Is SV) (j : Nat) (u : Value), l[k]? = some i → (cells6 i)[j]? = some u → (flat6 l)[k * 6 + j]? = some u
  | [], k, i, j, u, h, _ => by simp at h
  | x :: l, 0, i, j, u, h, hu => by
    simp at h; subst h
    rw [flat6_cons, Nat.zero_mul, Nat.zero_add, List.getElem?_append_left (List.getElem?_eq_some_iff.1 hu).1]; exact hu
  | x :: l, k + 1, i, j, u, h, hu => by
    have := flat6_get l k i j u (by simpa using h) hu
    rw [flat6_cons, List.getElem?_append_right (by simp [cells6]; omega)]
    rw [show (k + 1) * 6 + j - (cells6 x).length = k * 6 + j by simp [cells6]; omega]; exact this
theorem flat6_one (l : List (Is SV)) : ∀ u ∈ flat6 l, u.oneCell' = true := by
  intro u hu
  obtain ⟨q, hq, hu⟩ := List.mem_flatMap.1 hu
  simp only [cells6, List.mem_cons, List.mem_nil_iff, or_false] at hu
  rcases hu with rfl | rfl | rfl | rfl | rfl | rfl <;> rfl
theorem infoInst : (Tryz.prog.info? 66).map (fun i => (i.zero, i.size, i.bytes)) = some (some (.agg #[.int .i64 0, .int .i64 0, .int .i64 0, .int .i64 0, .int .i64 0, .slice none 0 0]), 6, 64) := by kernel_rfl

/-- The six cells of an instruction, from a place on. -/
def At6 (w : World) (b o : Nat) (i : Is SV) : Prop := ∀ j u, (cells6 i)[j]? = some u → w.cell? ⟨b, o + j, none⟩ = some u
theorem At6.c0 {w : World} {b o : Nat} {i : Is SV} (h : At6 w b o i) : w.cell? ⟨b, o, none⟩ = some (.int .i64 i.op) := h 0 _ rfl
theorem At6.c1 {w : World} {b o : Nat} {i : Is SV} (h : At6 w b o i) : w.cell? ⟨b, o + 1, none⟩ = some (.int .i64 i.x) := h 1 _ rfl
theorem At6.c2 {w : World} {b o : Nat} {i : Is SV} (h : At6 w b o i) : w.cell? ⟨b, o + 2, none⟩ = some (.int .i64 i.y) := h 2 _ rfl
theorem At6.c3 {w : World} {b o : Nat} {i : Is SV} (h : At6 w b o i) : w.cell? ⟨b, o + 3, none⟩ = some (.int .i64 i.mn) := h 3 _ rfl
theorem At6.c4 {w : World} {b o : Nat} {i : Is SV} (h : At6 w b o i) : w.cell? ⟨b, o + 4, none⟩ = some (.int .i64 i.mx) := h 4 _ rfl
theorem At6.c5 {w : World} {b o : Nat} {i : Is SV} (h : At6 w b o i) : w.cell? ⟨b, o + 5, none⟩ = some (.slice i.set.1 i.set.2.1 i.set.2.2) := h 5 _ rfl
/-- Instructions that can be read from an address on. -/
def CR (w : World) (ao : Option Addr) (l : List (Is SV)) : Prop := l = [] ∨ ∃ b off, ao = some ⟨b, off, none⟩ ∧ ∀ k i, l[k]? = some i → At6 w b (off + k * 6) i
theorem CR.pos {w : World} {ao : Option Addr} {l : List (Is SV)} (h : CR w ao l) (h0 : 0 < l.length) : ∃ b off, ao = some ⟨b, off, none⟩ ∧ ∀ k i, l[k]? = some i → At6 w b (off + k * 6) i := by
  rcases h with rfl | h
  · simp at h0
  · exact h
theorem CR.lt {w : World} {b off : Nat} {l : List (Is SV)} (h : ∀ k i, l[k]? = some i → At6 w b (off + k * 6) i) (h0 : 0 < l.length) : b < w.heap.size := by
  have := (h 0 l[0] (List.getElem?_eq_getElem h0)).c0
  exact World.block_lt_of_cell? w _ this
theorem CR.keep {w w' : World} {ao : Option Addr} {l : List (Is SV)} (h : CR w ao l) (hb : ∀ b off, ao = some ⟨b, off, none⟩ → 0 < l.length → b < w.heap.size → w'.heap[b]? = w.heap[b]?) : CR w' ao l := by
  rcases Nat.eq_zero_or_pos l.length with h0 | h0
  · exact .inl (List.length_eq_zero_iff.1 h0)
  · obtain ⟨b, off, e, hc⟩ := h.pos h0
    refine .inr ⟨b, off, e, fun k i hk j u hu => ?_⟩
    rw [World.cell?_of_block (a := ⟨b, off + k * 6 + j, none⟩) (hb b off e h0 (CR.lt hc h0))]
    exact hc k i hk j u hu
theorem CR.below {w w' : World} {ao : Option Addr} {l : List (Is SV)} (h : CR w ao l) (hb : Below w.heap.size w w') : CR w' ao l := h.keep fun b _ _ _ hl => hb.block b hl
theorem CR.news {w : World} {ad : Addr} {l : List (Is SV)} (h : CR w (some ad) l) : ∀ (j : Nat) (u : Value), (flat6 l)[j]? = some u → w.cell? (ad.add j) = some u := by
  intro j u hj
  have hjl : j < (flat6 l).length := (List.getElem?_eq_some_iff.1 hj).1
  rw [flat6_length] at hjl
  obtain ⟨b, off, e, hc⟩ := h.pos (by omega)
  cases e
  have hx : l[j / 6]? = some l[j / 6] := List.getElem?_eq_getElem (by omega)
  have hcell : (cells6 l[j / 6])[j % 6]? = some u := by
    have hm : j % 6 < (cells6 l[j / 6]).length := by simp [cells6]; omega
    have := flat6_get l (j / 6) _ (j % 6) _ hx (List.getElem?_eq_getElem hm)
    rw [show j / 6 * 6 + j % 6 = j by omega, hj] at this
    rw [List.getElem?_eq_getElem hm]; exact this.symm
  have := hc (j / 6) _ hx (j % 6) u hcell
  rw [show off + j / 6 * 6 + j % 6 = off + j by omega] at this
  rw [show (⟨b, off, none⟩ : Addr).add j = ⟨b, off + j, none⟩ by simp [Addr.add]]; exact this
theorem own_cr {w : World} {B n : Nat} {v : Value} {l : List (Is SV)} (h : w.ownsRow B 66 6 v n (flat6 l)) (hn : l.length = n) : ∃ ao cap, v = .slice ao n cap ∧ CR w ao l ∧ (ao = none → cap = 0) ∧ n ≤ cap ∧ ∀ x, ao = some x → some x.block = v.ownBlock := by
  rcases h.2 with ⟨rfl, h0⟩ | ⟨g, cap, cur, rfl, hg, hgg, rest⟩
  · subst h0
    obtain rfl : l = [] := List.length_eq_zero_iff.1 hn
    exact ⟨none, 0, rfl, .inl rfl, fun _ => rfl, Nat.le_refl _, fun x e => by cases e⟩
  · have hcap : n ≤ cap := rest.1
    refine ⟨_, _, rfl, .inr ⟨g, 0, rfl, fun k i hk j u hu => ?_⟩, fun e => (by cases e), hcap, fun x e => by cases e; rfl⟩
    have hjl : j < 6 := by have := (List.getElem?_eq_some_iff.1 hu).1; simpa [cells6] using this
    have hkl := (List.getElem?_eq_some_iff.1 hk).1
    have h2 : w.ownsRow B 66 6 (.slice (some ⟨g, 0, none⟩) n cap) n (flat6 l) := h
    have := h2.cellAt (k * 6 + j) (by omega)
    rw [flat6_get l k i j u hk hu] at this
    simpa using this
end Go.Proofs.YtjbcapnpknbbaaaGreat.cmp
end

section
/- A piece in the making: put. -/
set_option linter.unusedVariables false
set_option linter.unusedSimpArgs false
namespace Go.Proofs.YtjbcapnpknbbaaaGreat.cmp
open Go.RowKit nod
open Go.Proofs.YtjbcapnpknbbaaaGreat.rng (R RV info_parts)

/-- From w to w' only the blocks of which S holds, and new ones, have changed. -/
structure Kq (S : Nat → Prop) (w w' : World) : Prop where
  os : w'.os = w.os
  tape : w'.tape = w.tape
  output : w'.output = w.output
  size : w.heap.size ≤ w'.heap.size
  block : ∀ k, k < w.heap.size → ¬ S k → w'.heap[k]? = w.heap[k]?
theorem Kq.refl (S : Nat → Prop) (w : World) : Kq S w w := ⟨rfl, rfl, rfl, Nat.le_refl _, fun _ _ _ => rfl⟩
theorem Kq.trans {S T : Nat → Prop} {a b c : World} (h : Kq S a b) (k : Kq T b c) (hT : ∀ x, x < a.heap.size → T x → S x) : Kq S a c :=
  ⟨k.os.trans h.os, k.tape.trans h.tape, k.output.trans h.output, Nat.le_trans h.size k.size, fun i hi hS => (k.block i (Nat.lt_of_lt_of_le hi h.size) (fun t => hS (hT i hi t))).trans (h.block i hi hS)⟩
theorem Kq.of_below {S : Nat → Prop} {w w' : World} (h : Below w.heap.size w w') : Kq S w w' := ⟨h.os, h.tape, h.output, h.size, fun k hk _ => h.block k hk⟩
theorem Kq.alloc {S : Nat → Prop} {a b : World} (h : Kq S a b) (o : Obj) : Kq S a (b.alloc o) := h.trans (Kq.of_below (S := fun _ => False) ((Below.refl _ b).alloc (Nat.le_refl _) o)) (fun _ _ f => f.elim)
theorem Kq.setCell {S : Nat → Prop} {a b : World} {p : Addr} (h : Kq S a b) (hp : a.heap.size ≤ p.block ∨ S p.block) (u : Value) : Kq S a (b.setCell p u) := by
  refine ⟨h.os, h.tape, h.output, by simpa [World.setCell] using h.size, fun k hk hS => ?_⟩
  refine Eq.trans (Below.heap_setCell _ _ _ _ ?_) (h.block k hk hS)
  rintro rfl
  rcases hp with hp | hp
  · omega
  · exact hS hp
theorem Kq.grown {S : Nat → Prop} {a b c : World} {row : Option Nat} (h : Kq S a b) (g : b.grownBy c row) (hr : ∀ x, row = some x → x < a.heap.size → S x) : Kq S a c :=
  h.trans (T := fun x => some x = row) ⟨g.os, g.tape, g.output, g.size, fun k hk hS => g.block k hk hS⟩ (fun x hx e => hr x e.symm hx)
theorem Kq.below {S : Nat → Prop} {B : Nat} {w w' : World} (h : Kq S w w') (hB : B ≤ w.heap.size) (hS : ∀ x, S x → B ≤ x) : Below B w w' :=
  ⟨h.os, h.tape, h.output, h.size, fun k hk => h.block k (by omega) (fun s => by have := hS k s; omega)⟩
theorem Bk.kq {S : Nat → Prop} {w w' : World} {g : Nat} {cs : Array Value} {t : TypeId} (h : Bk w g cs t) (k : Kq S w w') (hS : ¬ S g) : Bk w' g cs t := (k.block g h.lt hS).trans h
theorem CR.kq {S : Nat → Prop} {w w' : World} {ao : Option Addr} {l : List (Is SV)} (h : CR w ao l) (k : Kq S w w') (hS : ∀ x, ao = some x → ¬ S x.block) : CR w' ao l := h.keep fun b off e _ hl => k.block b hl (hS _ e)

/-- In block pb lies the piece p, in the making since w0: its row, if it lay there by then, in block G. -/
structure PS (w0 w : World) (pb : Nat) (G : Option Nat) (p : Pc SV) : Prop where
  row : ∃ v, Bk w pb #[v, .int .i64 p.2] 55 ∧ w.ownsRow 0 66 6 v p.1.length (flat6 p.1) ∧ ∀ x, v.ownBlock = some x → some x = G ∨ w0.heap.size ≤ x
  kq : Kq (fun x => x = pb ∨ some x = G) w0 w
  lt : pb < w0.heap.size
theorem row_ne {w : World} {g pb : Nat} {v : Value} {n : Nat} {xs : List Value} {cs : Array Value} {t : TypeId} (h : w.ownsRow 0 66 6 v n xs) (b : Bk w pb cs t) (ht : t ≠ 66) (e : v.ownBlock = some g) : g ≠ pb := by
  rcases h.2 with ⟨rfl, _⟩ | ⟨g', cap, cur, rfl, _, hg, _⟩
  · cases e
  · rintro rfl
    obtain rfl : g' = g := by simpa [Value.ownBlock] using e
    unfold Bk at b
    rw [b] at hg; cases hg; exact ht rfl
theorem PS.again {w0 w : World} {pb : Nat} {G : Option Nat} {p : Pc SV} (h : PS w0 w pb G p) : ∃ G', PS w w pb G' p ∧ (∀ x, G' = some x → some x = G ∨ w0.heap.size ≤ x) ∧ ∀ g cs t, Bk w g cs t → t ≠ 66 → some g ≠ G' := by
  obtain ⟨v, b, o, hx⟩ := h.row
  exact ⟨v.ownBlock, ⟨⟨v, b, o, fun x e => .inl e.symm⟩, Kq.refl _ _, b.lt⟩, hx, fun g cs t hb ht e => row_ne o hb ht e.symm rfl⟩
theorem PS.bk {w0 w : World} {pb g : Nat} {G : Option Nat} {p : Pc SV} {cs : Array Value} {t : TypeId} (h : PS w0 w pb G p) (b : Bk w0 g cs t) (h1 : g ≠ pb) (h2 : some g ≠ G) : Bk w g cs t := Bk.kq b h.kq (fun e => e.elim h1 h2)
theorem PS.cr {w0 w : World} {pb : Nat} {G : Option Nat} {p : Pc SV} {ao : Option Addr} {l : List (Is SV)} (h : PS w0 w pb G p) (c : CR w0 ao l) (hn : ∀ x, ao = some x → x.block ≠ pb ∧ some x.block ≠ G) : CR w ao l := c.kq h.kq (fun x e f => f.elim (hn x e).1 (hn x e).2)
theorem PS.then {w0 w w' : World} {pb : Nat} {G G' : Option Nat} {p q : Pc SV} (h : PS w0 w pb G p) (hG : ∀ x, G' = some x → some x = G ∨ w0.heap.size ≤ x) (k : PS w w' pb G' q) : PS w0 w' pb G q := by
  obtain ⟨v, b, o, hx⟩ := k.row
  refine ⟨⟨v, b, o, fun x e => ?_⟩, h.kq.trans k.kq (fun x hx e => ?_), h.lt⟩
  · rcases hx x e with e' | e'
    · exact hG x e'.symm
    · exact .inr (Nat.le_trans h.kq.size e')
  · rcases e with e | e
    · exact .inl e
    · rcases hG x e.symm with e' | e'
      · exact .inr e'
      · omega
theorem PS.alloc {w0 w : World} {pb : Nat} {G : Option Nat} {p : Pc SV} (h : PS w0 w pb G p) (o : Obj) : PS w0 (w.alloc o) pb G p := by
  obtain ⟨v, b, ow, hx⟩ := h.row
  exact ⟨⟨v, b.past o, ow.alloc o, hx⟩, h.kq.alloc o, h.lt⟩
theorem PS.on {w0 w w' : World} {pb : Nat} {G : Option Nat} {p : Pc SV} (h : PS w0 w pb G p) (hb : Below w.heap.size w w') : PS w0 w' pb G p := by
  obtain ⟨v, b, ow, hx⟩ := h.row
  exact ⟨⟨v, b.on hb, rng.own_below' ow hb, hx⟩, h.kq.trans (Kq.of_below (S := fun _ => False) hb) (fun _ _ f => f.elim), h.lt⟩
theorem PS.drewN {w0 w : World} {pb : Nat} {G : Option Nat} {p : Pc SV} (h : PS w0 w pb G p) (q : Nat) : PS w0 (w.drewN q) pb G p := h.on (rng.below_drewN (Below.refl _ w) q)
/-- How many marks it has, turned. -/
theorem PS.marks {w0 w : World} {pb : Nat} {G : Option Nat} {l : List (Is SV)} {m : Int} (h : PS w0 w pb G (l, m)) (k : Int) : PS w0 (w.setCell ⟨pb, 1, none⟩ (.int .i64 k)) pb G (l, k) := by
  obtain ⟨v, b, ow, hx⟩ := h.row
  refine ⟨⟨v, by have := b.set 1 (.int .i64 k); simpa using this, ?_, hx⟩, h.kq.setCell (.inr (.inl rfl)) _, h.lt⟩
  refine ow.kept (row := some pb) ⟨rfl, rfl, rfl, by simp [World.setCell], fun j _ hk => Below.heap_setCell _ _ _ _ (fun e => hk (by rw [e]))⟩ ?_
  cases hob : v.ownBlock with
  | none => exact .inl rfl
  | some y => exact .inr (fun e => row_ne ow b (by decide) hob (by cases e; rfl))
/-- A piece that has nothing yet. -/
theorem PS.new (w : World) : PS (w.alloc (.cells #[.slice none 0 0, .int .i64 0] 55)) (w.alloc (.cells #[.slice none 0 0, .int .i64 0] 55)) w.heap.size none ([], 0) :=
  ⟨⟨.slice none 0 0, Bk.new w _ _, World.ownsRow_nil _ _ _ _, fun x e => by cases e⟩, Kq.refl _ _, by simp⟩
theorem own_form {w : World} {B e size n : Nat} {v : Value} {xs : List Value} (h : w.ownsRow B e size v n xs) : ∃ ao n' cap, v = .slice ao n' cap := by
  rcases h.2 with ⟨rfl, _⟩ | ⟨g, cap, cur, rfl, _⟩
  · exact ⟨_, _, _, rfl⟩
  · exact ⟨_, _, _, rfl⟩
set_option maxRecDepth 10000 in
set_option maxHeartbeats 2000000 in
theorem put_any (pb : Nat) (p : Pc SV) (G : Option Nat) (ao : Option Addr) (n c : Nat) (l : List (Is SV)) (w : World) (hp : PS w w pb G p) (hl : l.length = n) (hv : CR w ao l) (hc : ao = none → c = 0) (hb : p.1.length + n ≤ 2000000) :
    Calls Tryz.prog 56 #[.pointer (some ⟨pb, 0, none⟩), .slice ao n c] w fun e w' => e = .returned (.tuple #[]) ∧ PS w w' pb G (putP p l) := by
  obtain ⟨i0, hi, hz0, hz1, hz2⟩ := info_parts infoInst
  obtain ⟨v, bk, hown, hx⟩ := hp.row
  have hpb := hp.lt
  have x0 := bk.cell 0 (u := v) rfl
  have f0 := bk.frozen 0
  have HF : Hid (∀ (v' : Value) (w' : World), w'.ownsRow 0 66 6 v' (p.1.length + n) (flat6 p.1 ++ flat6 l) → w.grownBy w' v.ownBlock → (v'.ownBlock = v.ownBlock ∨ v'.ownBlock = some w.heap.size) → PS w (w'.setCell ⟨pb, 0, none⟩ v') pb G (putP p l) ∧ Bk w' pb #[v, .int .i64 p.2] 55) := fun v' w' ho hg hat => by
    have bk' : Bk w' pb #[v, .int .i64 p.2] 55 := (hg.block pb hpb (fun e => row_ne hown bk (by decide) e.symm rfl)).trans bk
    have ho' : w'.ownsRow 0 66 6 v' (putP p l).1.length (flat6 (putP p l).1) := by
      rw [show (putP p l).1 = p.1 ++ l from rfl, flat6_append, List.length_append, hl]; exact ho
    refine ⟨⟨⟨v', ?_, ?_, fun x e => ?_⟩, (((Kq.refl _ w).grown hg (fun x e _ => ?_)).setCell (.inr (.inl rfl)) v'), hpb⟩, bk'⟩
    · have := bk'.set 0 v'; simpa [putP] using this
    · refine ho'.kept (row := some pb) ⟨rfl, rfl, rfl, by simp [World.setCell], fun k _ hk => Below.heap_setCell _ _ _ _ (fun e => hk (by rw [e]))⟩ ?_
      cases hob : v'.ownBlock with
      | none => exact .inl rfl
      | some y => exact .inr (fun e => row_ne ho' bk' (by decide) hob (by cases e; rfl))
    · rcases hat with hat | hat
      · rw [hat] at e; exact hx x e
      · rw [hat] at e; cases e; exact .inr (Nat.le_refl _)
    · rcases hx x e with e' | e'
      · exact .inr e'
      · omega
  cases ao with
  | none =>
    obtain rfl : l = [] := by
      rcases hv with h | ⟨b, off, e, _⟩
      · exact h
      · cases e
    obtain rfl := hc rfl
    obtain rfl : n = 0 := by simpa using hl.symm
    have HH : Hid (PS w (w.setCell ⟨pb, 0, none⟩ v) pb G (putP p [])) := (HF.out v w (by simpa [flat6] using hown) ⟨rfl, rfl, rfl, Nat.le_refl _, fun _ _ _ => rfl⟩ (.inl rfl)).1
    obtain ⟨av, nv, cv, rfl⟩ := own_form hown
    clear hv bk hp hx HF
    go_enter Tryz.func56, Tryz.ntmps56
    go_wp2_with (at_builtin; refine wpList_append_own_none rfl _ _ 31 rfl 0 66 i0 6 Tryz.underlying31 hi _ _ _ rfl hown rfl ?_)
    go_wp2
    go_end0
    exact ⟨rfl, HH.out⟩
  | some ad =>
    have HN : Hid (∀ (j : Nat) (u : Value), (flat6 l)[j]? = some u → w.cell? (ad.add j) = some u) := hv.news
    clear hv bk hp hx
    go_enter Tryz.func56, Tryz.ntmps56
    go_wp2_with (at_builtin; refine wpList_append_own_at _ rfl _ _ 31 rfl 0 66 i0 _ 6 64 Tryz.underlying31 hi hz0 hz1 hz2 rfl (by decide) _ _ _ rfl hown ad n c (flat6 l) rfl (by rw [flat6_length, hl]) HN.out (flat6_one l) (by unfold maxLen; omega) (by omega) (Nat.zero_le _) ?_)
    intro v' w' ho hg _ hat
    obtain ⟨ao', n', cap', rfl⟩ := own_form ho
    obtain ⟨H1, H2⟩ := HF.out _ w' ho hg hat
    have y0 := H2.cell 0 (u := v) rfl
    have g0 := H2.frozen 0
    have HH : Hid (PS w (w'.setCell ⟨pb, 0, none⟩ (.slice ao' n' cap')) pb G (putP p l)) := H1
    clear H1 H2 HF ho hg hat hown x0 f0
    go_wp2
    go_end0
    exact ⟨rfl, HH.out⟩
theorem put_ps {w0 w : World} {pb : Nat} {p : Pc SV} {G : Option Nat} (hp : PS w0 w pb G p) (ao : Option Addr) (n c : Nat) (l : List (Is SV)) (hl : l.length = n) (hv : CR w ao l) (hc : ao = none → c = 0) (hb : p.1.length + n ≤ 2000000) :
    Calls Tryz.prog 56 #[.pointer (some ⟨pb, 0, none⟩), .slice ao n c] w fun e w' => e = .returned (.tuple #[]) ∧ PS w0 w' pb G (putP p l) := by
  obtain ⟨G', h1, h2, _⟩ := hp.again
  exact (put_any pb p G' ao n c l w h1 hl hv hc hb).mono fun e w' ⟨he, h⟩ => ⟨he, hp.then h2 h⟩
end Go.Proofs.YtjbcapnpknbbaaaGreat.cmp
end
