/- Texts that the proof leans on, one behind the other. -/
import Derived.Test.YtjbcapnpknbbaaaGreatBndNodMem
import Derived.Deep.QuietTactic
import Derived.BigQuiet
import Derived.Laws.Rows

section
/- A region that draws its order, whose callees only lay blocks of their own: walked once, in the order of the text. -/
set_option linter.unusedVariables false
set_option linter.unusedSimpArgs false
namespace Go.Proofs.YtjbcapnpknbbaaaGreat.nod
open Go.RowKit

/-- A world that has W0 below z. -/
structure Abv (z : Nat) (W0 : World) where
  w : World
  h : Below z W0 w
instance (z : Nat) (W0 : World) : Nonempty (Abv z W0) := ⟨⟨W0, Below.refl _ _⟩⟩
theorem region_above {P : Program} {id : Nat} {Q : Exit → Act → World → Prop} {a : Act} {w : World} {l : List Oper} (z : Nat) (W0 : World) (hm : P.follows .mixedOrders = true) (hB : Region.lexB .any l.toArray = true) (hC : Below z W0 w.drew)
    (h : wpQuiet P l.toArray (fun w' => ∃ p : Abv z W0, w' = p.w) (fun a' => ∀ w', (∃ p : Abv z W0, w' = p.w) → Q .normal a' w') l a) : (Code.region id l.toArray true).wp P Q a w :=
  wp_region_quiet (C := fun w' => ∃ p : Abv z W0, w' = p.w) hm hB ⟨⟨_, hC⟩, rfl⟩ (by simpa using h)
theorem calls_above {P : Program} {f : FuncId} {args : Array Value} {v : Value} {z : Nat} {W0 : World} (C : ∀ W, Below z W0 W → Calls P f args W fun e w' => e = .returned v ∧ Below z W0 w') (p : Abv z W0) :
    Calls P f args p.w fun e w'' => e = .returned v ∧ ∃ q : Abv z W0, w'' = q.w :=
  (C p.w p.h).mono fun _ w' ⟨he, hb⟩ => ⟨he, ⟨w', hb⟩, rfl⟩
theorem Bk.above {z : Nat} {W0 : World} {g : Nat} {cs : Array Value} {t : TypeId} (h : Bk W0 g cs t) (hg : g < z) (i : Nat) {u : Value} (hi : cs[i]? = some u) (p : Abv z W0) : p.w.cell? ⟨g, i, none⟩ = some u := (h.keep p.h hg).cell i hi
end Go.Proofs.YtjbcapnpknbbaaaGreat.nod
end

section
/- Groups and Depth of package tree. -/
set_option linter.unusedVariables false
set_option linter.unusedSimpArgs false
namespace Go.Proofs.YtjbcapnpknbbaaaGreat.tre
open Go.RowKit nod
open Go.Proofs.YtjbcapnpknbbaaaGreat.rng (R RV ret_int ret_bool below_drewN info_parts own_below')

theorem len_szL : ∀ ks : List Nd, ks.length ≤ szL ks
  | [] => by simp [szL]
  | t :: ts => by
    have := len_szL ts
    have : 1 ≤ t.sz := by obtain ⟨k, m, a, b, g, n, s, ks⟩ := t; rw [Nd.sz]; omega
    rw [szL, List.length_cons]; omega
mutual
/-- Groups with a number. -/
def grpN : Nd → Int
  | .mk k _ a _ _ _ _ ks => (if k = 9 ∧ 0 < a then 1 else 0) + grpL ks
def grpL : List Nd → Int
  | [] => 0
  | t :: ts => grpN t + grpL ts
end
/-- Has it a left and a right side. -/
def sided (k m : Int) : Bool := k == 3 && (m == 1 || m == 2 || m == 3)
def brack (k : Int) : Bool := k == 9 || k == 10 || k == 11 || k == 3
mutual
def depN : Nd → Int
  | .mk k m _ _ _ _ _ ks => depL (sided k m) ks + (if brack k then 1 else 0)
/-- The deepest of kids; a class that is a side has no brackets. -/
def depL : Bool → List Nd → Int
  | _, [] => 0
  | q, t :: ts => max (depN t - (if t.kind == 3 && q then 1 else 0)) (depL q ts)
end
theorem grpL_snoc : ∀ (l : List Nd) (t : Nd), grpL (l ++ [t]) = grpL l + grpN t
  | [], t => by simp [grpL]
  | x :: l, t => by rw [List.cons_append, grpL, grpL, grpL_snoc l t]; omega
theorem depL_nonneg (q : Bool) : ∀ l : List Nd, 0 ≤ depL q l
  | [] => by rw [depL]; omega
  | t :: ts => by rw [depL]; have := depL_nonneg q ts; omega
theorem depL_snoc (q : Bool) : ∀ (l : List Nd) (t : Nd), depL q (l ++ [t]) = max (depL q l) (depN t - (if t.kind == 3 && q then 1 else 0))
  | [], t => by
    simp only [List.nil_append, depL]
    exact Int.max_comm _ _
  | x :: l, t => by rw [List.cons_append, depL, depL, depL_snoc q l t]; omega
theorem grp_bounds : ∀ (N : Nat) (t : Nd), t.sz ≤ N → 0 ≤ grpN t ∧ grpN t ≤ t.sz := by
  intro N
  induction N with
  | zero => intro t h; obtain ⟨k, m, a, b, g, n, s, ks⟩ := t; rw [Nd.sz] at h; omega
  | succ N ih =>
    intro t h
    obtain ⟨k, m, a, b, g, n, s, ks⟩ := t
    rw [Nd.sz] at h ⊢
    rw [grpN]
    have key : ∀ l : List Nd, (∀ x ∈ l, x.sz ≤ N) → 0 ≤ grpL l ∧ grpL l ≤ szL l := by
      intro l
      induction l with
      | nil => intro _; rw [grpL, szL]; omega
      | cons x l ih2 =>
        intro hl
        rw [grpL, szL]
        have h1 := ih x (hl x (by simp))
        have h2 := ih2 (fun y hy => hl y (by simp [hy]))
        omega
    have := key ks (fun x hx => by have := szL_mem hx; omega)
    split <;> omega
theorem dep_bounds : ∀ (N : Nat) (t : Nd), t.sz ≤ N → 0 ≤ depN t ∧ depN t ≤ t.sz ∧ (brack t.kind = true → 1 ≤ depN t) := by
  intro N
  induction N with
  | zero => intro t h; obtain ⟨k, m, a, b, g, n, s, ks⟩ := t; rw [Nd.sz] at h; omega
  | succ N ih =>
    intro t h
    obtain ⟨k, m, a, b, g, n, s, ks⟩ := t
    rw [Nd.sz] at h ⊢
    rw [depN]
    have key : ∀ l : List Nd, (∀ x ∈ l, x.sz ≤ N) → depL (sided k m) l ≤ szL l := by
      intro l
      induction l with
      | nil => intro _; rw [depL, szL]; omega
      | cons x l ih2 =>
        intro hl
        rw [depL, szL]
        have h1 := ih x (hl x (by simp))
        have h2 := ih2 (fun y hy => hl y (by simp [hy]))
        split <;> omega
    have h1 := key ks (fun x hx => by have := szL_mem hx; omega)
    have h2 := depL_nonneg (sided k m) ks
    refine ⟨by split <;> omega, by split <;> omega, fun hb => ?_⟩
    have hb' : brack k = true := hb
    rw [if_pos hb']
    omega

/-- A row of texts as it is read. -/
def TV (w : World) (ao : Option Addr) (l : List ByteArray) : Prop := ∃ b off, ao = some ⟨b, off, none⟩ ∧ ∀ i t, l[i]? = some t → w.cell? ⟨b, off + i, none⟩ = some (.string t)
def textP (mode : Int) (l : List ByteArray) : ByteArray := if mode < 0 then ByteArray.empty else (l[mode.toNat]?).getD ByteArray.empty
def opTexts : List ByteArray := [ByteArray.empty, ⟨#[38, 38]⟩, ⟨#[45, 45]⟩, ⟨#[126, 126]⟩]
theorem sided_eq (m : Int) : (!(textP m opTexts).toList.isEmpty) = sided 3 m := by
  unfold sided textP
  by_cases c : m < 0
  · rw [if_pos c]
    have : (m == 1 || m == 2 || m == 3) = false := by simp; omega
    rw [this]; decide +kernel
  · rw [if_neg c]
    obtain ⟨M, rfl⟩ : ∃ M : Nat, m = M := ⟨m.toNat, by omega⟩
    rw [Int.toNat_natCast]
    match M with
    | 0 => decide +kernel
    | 1 => decide +kernel
    | 2 => decide +kernel
    | 3 => decide +kernel
    | k + 4 =>
      have : (((k + 4 : Nat) : Int) == 1 || ((k + 4 : Nat) : Int) == 2 || ((k + 4 : Nat) : Int) == 3) = false := by simp; omega
      rw [this, List.getElem?_eq_none (by simp [opTexts])]; decide +kernel
theorem szL_take (ks : List Nd) : ∀ j, szL (ks.take j) ≤ szL ks := by
  induction ks with
  | nil => intro j; simp [szL]
  | cons t ts ih =>
    intro j
    cases j with
    | zero => simp [szL]
    | succ j => rw [List.take_succ_cons, szL, szL]; have := ih j; omega
theorem grpL_bounds (l : List Nd) : 0 ≤ grpL l ∧ grpL l ≤ szL l := by
  induction l with
  | nil => rw [grpL, szL]; omega
  | cons x l ih => rw [grpL, szL]; have := grp_bounds _ x (Nat.le_refl _); omega
theorem depL_bound (q : Bool) (l : List Nd) : depL q l ≤ szL l := by
  induction l with
  | nil => rw [depL, szL]; omega
  | cons x l ih => rw [depL, szL]; have := dep_bounds _ x (Nat.le_refl _); split <;> omega
end Go.Proofs.YtjbcapnpknbbaaaGreat.tre
end

section
/- The document's Same at two readings of one tree. -/
set_option linter.unusedVariables false
set_option linter.unusedSimpArgs false
namespace Go.Proofs.YtjbcapnpknbbaaaGreat.tre
open Go.RowKit nod
open Go.Proofs.YtjbcapnpknbbaaaGreat.rng (R RV ret_int ret_bool below_drewN info_parts own_below')

theorem mixedS : Tryz.prog.follows .mixedOrders = true := by kernel_rfl
/-- From w on nothing has changed, and the two nodes that came in lie behind it. -/
def Q2n (w : World) (b1 b2 : Array Value) (w' : World) : Prop := Below w.heap.size w w' ∧ Bk w' w.heap.size b1 25 ∧ Bk w' (w.heap.size + 1) b2 25
theorem Q2n.on {w w' w'' : World} {b1 b2 : Array Value} (q : Q2n w b1 b2 w') (d : Below w'.heap.size w' w'') : Q2n w b1 b2 w'' := ⟨q.1.trans (below_less d q.1.size), q.2.1.on d, q.2.2.on d⟩
theorem rv_some {w : World} {sa : Option Addr} {s : List R} (h : RV w sa s) (h0 : 0 < s.length) : ∃ b off, sa = some ⟨b, off, none⟩ ∧ ∀ (i : Nat) p, s[i]? = some p → w.cell? ⟨b, off + i * 2, none⟩ = some (.int .i64 p.1) ∧ w.cell? ⟨b, off + i * 2 + 1, none⟩ = some (.int .i64 p.2) := by
  rcases h with rfl | ⟨b, off, e, h⟩
  · simp at h0
  · exact ⟨b, off, e, fun i p hi => h i p hi⟩
/-- Two readings of one kid. -/
theorem kid_two {B : Nat} {w : World} {b1 o1 b2 o2 i : Nat} {ks : List Nd} {t : Nd} (h1 : KAt B w b1 o1 ks) (h2 : KAt B w b2 o2 ks) (hi : ks[i]? = some t) : ∃ k m a b g n s kk s1 c1 a1 d1 s2 c2 a2 d2, t = .mk k m a b g n s kk ∧
    At8 w b1 (o1 + i * 8) (.agg #[.int .i64 k, .int .i64 m, .int .i64 a, .int .i64 b, .bool g, .string n, .slice s1 s.length c1, .slice a1 kk.length d1]) ∧ At8 w b2 (o2 + i * 8) (.agg #[.int .i64 k, .int .i64 m, .int .i64 a, .int .i64 b, .bool g, .string n, .slice s2 s.length c2, .slice a2 kk.length d2]) ∧
    NV B w t (.agg #[.int .i64 k, .int .i64 m, .int .i64 a, .int .i64 b, .bool g, .string n, .slice s1 s.length c1, .slice a1 kk.length d1]) ∧ NV B w t (.agg #[.int .i64 k, .int .i64 m, .int .i64 a, .int .i64 b, .bool g, .string n, .slice s2 s.length c2, .slice a2 kk.length d2]) := by
  obtain ⟨v1, p1, q1⟩ := h1.2 i t hi
  obtain ⟨v2, p2, q2⟩ := h2.2 i t hi
  obtain ⟨k, m, a, b, g, n, s, kk, s1, c1, a1, d1, rfl, rfl, _⟩ := q1.open
  obtain ⟨_, _, _, _, _, _, _, _, s2, c2, a2, d2, e, rfl, _⟩ := q2.open
  cases e
  exact ⟨k, m, a, b, g, n, s, kk, s1, c1, a1, d1, s2, c2, a2, d2, rfl, p1, p2, q1, q2⟩
set_option maxRecDepth 10000 in
set_option maxHeartbeats 8000000 in
theorem same_step (k m a b : Int) (ng : Bool) (n : ByteArray) (st : List R) (ks : List Nd) (sa1 sa2 : Option Addr) (sl sc1 sc2 : Nat) (ao1 ao2 : Option Addr) (nk cap1 cap2 : Nat) (w : World) (HLS : Hid (st.length = sl)) (HL : Hid (ks.length = nk)) (hsc1 : sl ≤ sc1 ∧ sc1 ≤ 9223372036854775807) (hsc2 : sl ≤ sc2 ∧ sc2 ≤ 9223372036854775807) (hc1 : nk ≤ cap1 ∧ cap1 ≤ 9223372036854775807) (hc2 : nk ≤ cap2 ∧ cap2 ≤ 9223372036854775807)
    (HR1 : Hid (RV w sa1 st ∧ ∀ x, sa1 = some x → st ≠ [] → x.block < w.heap.size)) (HR2 : Hid (RV w sa2 st ∧ ∀ x, sa2 = some x → st ≠ [] → x.block < w.heap.size)) (HK1 : Hid (KV w.heap.size w ao1 ks)) (HK2 : Hid (KV w.heap.size w ao2 ks))
    (HI : Hid (∀ t ∈ ks, ∀ v1 v2 W, NV W.heap.size W t v1 → NV W.heap.size W t v2 → Calls Tryz.prog 10 #[v1, v2] W fun e w' => e = .returned (.bool true) ∧ Below W.heap.size W w')) :
    Calls Tryz.prog 10 #[.agg #[.int .i64 k, .int .i64 m, .int .i64 a, .int .i64 b, .bool ng, .string n, .slice sa1 sl sc1, .slice ao1 nk cap1], .agg #[.int .i64 k, .int .i64 m, .int .i64 a, .int .i64 b, .bool ng, .string n, .slice sa2 sl sc2, .slice ao2 nk cap2]] w fun e w' => e = .returned (.bool true) ∧ Below w.heap.size w w' := by
  have b1 : Bk ((w.alloc (.cells #[.int .i64 k, .int .i64 m, .int .i64 a, .int .i64 b, .bool ng, .string n, .slice sa1 sl sc1, .slice ao1 nk cap1] 25)).alloc (.cells #[.int .i64 k, .int .i64 m, .int .i64 a, .int .i64 b, .bool ng, .string n, .slice sa2 sl sc2, .slice ao2 nk cap2] 25)) w.heap.size #[.int .i64 k, .int .i64 m, .int .i64 a, .int .i64 b, .bool ng, .string n, .slice sa1 sl sc1, .slice ao1 nk cap1] 25 := (Bk.new w _ _).past _
  have HS : Hid (Q2n w #[.int .i64 k, .int .i64 m, .int .i64 a, .int .i64 b, .bool ng, .string n, .slice sa1 sl sc1, .slice ao1 nk cap1] #[.int .i64 k, .int .i64 m, .int .i64 a, .int .i64 b, .bool ng, .string n, .slice sa2 sl sc2, .slice ao2 nk cap2] ((w.alloc (.cells #[.int .i64 k, .int .i64 m, .int .i64 a, .int .i64 b, .bool ng, .string n, .slice sa1 sl sc1, .slice ao1 nk cap1] 25)).alloc (.cells #[.int .i64 k, .int .i64 m, .int .i64 a, .int .i64 b, .bool ng, .string n, .slice sa2 sl sc2, .slice ao2 nk cap2] 25))) := ⟨below2 _ _ _, b1, bk2⟩
  have es : (n.toList == n.toList) = true := by simp
  clear b1
  go_enter Tryz.func10, Tryz.ntmps10
  go_wp2
  go_loopw [68] (fun i wr => ∃ (j : Nat), j ≤ sl ∧ i = .int .i64 j ∧ Hid (Q2n w #[.int .i64 k, .int .i64 m, .int .i64 a, .int .i64 b, .bool ng, .string n, .slice sa1 sl sc1, .slice ao1 nk cap1] #[.int .i64 k, .int .i64 m, .int .i64 a, .int .i64 b, .bool ng, .string n, .slice sa2 sl sc2, .slice ao2 nk cap2] wr)) (fun i _ => sl - (intOf i).toNat)
  case atStart => exact ⟨0, by omega, rfl, HS⟩
  case round =>
    obtain ⟨j, hj, rfl, HQ⟩ := hrel
    clear HS
    have x0 := HQ.out.2.1.cell 0 (u := .int .i64 k) rfl
    have x1 := HQ.out.2.1.cell 1 (u := .int .i64 m) rfl
    have x2 := HQ.out.2.1.cell 2 (u := .int .i64 a) rfl
    have x3 := HQ.out.2.1.cell 3 (u := .int .i64 b) rfl
    have x4 := HQ.out.2.1.cell 4 (u := .bool ng) rfl
    have x5 := HQ.out.2.1.cell 5 (u := .string n) rfl
    have x6 := HQ.out.2.1.cell 6 (u := .slice sa1 sl sc1) rfl
    have x7 := HQ.out.2.1.cell 7 (u := .slice ao1 nk cap1) rfl
    have y0 := HQ.out.2.2.cell 0 (u := .int .i64 k) rfl
    have y1 := HQ.out.2.2.cell 1 (u := .int .i64 m) rfl
    have y2 := HQ.out.2.2.cell 2 (u := .int .i64 a) rfl
    have y3 := HQ.out.2.2.cell 3 (u := .int .i64 b) rfl
    have y4 := HQ.out.2.2.cell 4 (u := .bool ng) rfl
    have y5 := HQ.out.2.2.cell 5 (u := .string n) rfl
    have y6 := HQ.out.2.2.cell 6 (u := .slice sa2 sl sc2) rfl
    have y7 := HQ.out.2.2.cell 7 (u := .slice ao2 nk cap2) rfl
    by_cases hlt : j < sl
    · obtain ⟨pp, hpp⟩ := getX HLS.out hlt
      have hne : st ≠ [] := by intro e; rw [e] at hpp; simp at hpp
      obtain ⟨p1, o1, rfl, hr1⟩ := rv_some HR1.out.1 (by have := HLS.out; omega)
      obtain ⟨p2, o2, rfl, hr2⟩ := rv_some HR2.out.1 (by have := HLS.out; omega)
      have q1 := HR1.out.2 _ rfl hne
      have q2 := HR2.out.2 _ rfl hne
      obtain ⟨z1, z2⟩ := hr1 j pp hpp
      obtain ⟨z3, z4⟩ := hr2 j pp hpp
      have u1 := (HQ.out.1.cell (p := ⟨p1, o1 + j * 2, none⟩) q1).trans z1
      have u2 := (HQ.out.1.cell (p := ⟨p1, o1 + j * 2 + 1, none⟩) q1).trans z2
      have u3 := (HQ.out.1.cell (p := ⟨p2, o2 + j * 2, none⟩) q2).trans z3
      have u4 := (HQ.out.1.cell (p := ⟨p2, o2 + j * 2 + 1, none⟩) q2).trans z4
      obtain ⟨P1, P2⟩ := pp
      simp only [] at u1 u2 u3 u4
      clear z1 z2 z3 z4 hr1 hr2 hpp hne HK1 HK2 HI HR1 HR2
      go_wp2
      go_quiet (fail)
      go_wp2
      go_roundw
      case rel => exact ⟨j + 1, by omega, by go_num, HQ.out.on (below_drewN (Below.refl _ _) _)⟩
      case measure => simp [intOf]; omega
    · clear HR1 HR2
      go_wp2
      go_loopw [86] (fun i wr' => ∃ (j : Nat), j ≤ nk ∧ i = .int .i64 j ∧ Hid (Q2n w #[.int .i64 k, .int .i64 m, .int .i64 a, .int .i64 b, .bool ng, .string n, .slice sa1 sl sc1, .slice ao1 nk cap1] #[.int .i64 k, .int .i64 m, .int .i64 a, .int .i64 b, .bool ng, .string n, .slice sa2 sl sc2, .slice ao2 nk cap2] wr')) (fun i _ => nk - (intOf i).toNat)
      case atStart => exact ⟨0, by omega, rfl, HQ⟩
      case round =>
        obtain ⟨jj, hjj, rfl, HQ'⟩ := hrel
        clear HQ x0 x1 x2 x3 x4 x5 x6 x7 y0 y1 y2 y3 y4 y5 y6 y7
        by_cases hlt' : jj < nk
        · obtain ⟨t, ht⟩ := getX HL.out hlt'
          have hmem := List.mem_of_getElem? ht
          obtain ⟨p1, o1, rfl, h1⟩ := HK1.out.some (by have := HL.out; omega)
          obtain ⟨p2, o2, rfl, h2⟩ := HK2.out.some (by have := HL.out; omega)
          have hp1 := h1.1
          have hp2 := h2.1
          obtain ⟨k', m', a', b', g', n', s', kk, s1', sc1', a1', cap1', s2', sc2', a2', cap2', rfl, e1, e2, v1, v2⟩ := kid_two h1 h2 ht
          have CI := HI.out _ hmem
          obtain ⟨T, hT⟩ : ∃ T, Nd.mk k' m' a' b' g' n' s' kk = T := ⟨_, rfl⟩
          rw [hT] at v1 v2 CI
          generalize s'.length = sl' at *
          generalize kk.length = nk' at *
          obtain ⟨V, HV⟩ : ∃ V, wr = V := ⟨_, rfl⟩
          have HQV : Hid (Q2n w #[.int .i64 k, .int .i64 m, .int .i64 a, .int .i64 b, .bool ng, .string n, .slice sa1 sl sc1, .slice (some ⟨p1, o1, none⟩) nk cap1] #[.int .i64 k, .int .i64 m, .int .i64 a, .int .i64 b, .bool ng, .string n, .slice sa2 sl sc2, .slice (some ⟨p2, o2, none⟩) nk cap2] V) := HV ▸ HQ'
          have CC : ∀ W, Below V.heap.size V W → Calls Tryz.prog 10 #[.agg #[.int .i64 k', .int .i64 m', .int .i64 a', .int .i64 b', .bool g', .string n', .slice s1' sl' sc1', .slice a1' nk' cap1'], .agg #[.int .i64 k', .int .i64 m', .int .i64 a', .int .i64 b', .bool g', .string n', .slice s2' sl' sc2', .slice a2' nk' cap2']] W fun e w' => e = .returned (.bool true) ∧ Below V.heap.size V w' := fun W hW => by
            have hb := HQV.out.1.trans (below_less hW HQV.out.1.size)
            exact (CI _ _ W ((v1.keep hb).wide hb.size) ((v2.keep hb).wide hb.size)).mono fun e w' ⟨h1, h2⟩ => ⟨h1, hW.trans (below_less h2 hW.size)⟩
          have HCC : Hid _ := CC
          have hall : ∀ p : Abv V.heap.size V, (Q2n w #[.int .i64 k, .int .i64 m, .int .i64 a, .int .i64 b, .bool ng, .string n, .slice sa1 sl sc1, .slice (some ⟨p1, o1, none⟩) nk cap1] #[.int .i64 k, .int .i64 m, .int .i64 a, .int .i64 b, .bool ng, .string n, .slice sa2 sl sc2, .slice (some ⟨p2, o2, none⟩) nk cap2] p.w) := fun p => HQV.out.on p.h
          have f7 : ∀ p : Abv V.heap.size V, p.w.cell? ⟨w.heap.size, 7, none⟩ = some (.slice (some ⟨p1, o1, none⟩) nk cap1) := fun p => (hall p).2.1.cell 7 rfl
          have g7 : ∀ p : Abv V.heap.size V, p.w.cell? ⟨w.heap.size + 1, 7, none⟩ = some (.slice (some ⟨p2, o2, none⟩) nk cap2) := fun p => (hall p).2.2.cell 7 rfl
          have E1 : ∀ p : Abv V.heap.size V, At8 p.w p1 (o1 + jj * 8) (.agg #[.int .i64 k', .int .i64 m', .int .i64 a', .int .i64 b', .bool g', .string n', .slice s1' sl' sc1', .slice a1' nk' cap1']) := fun p => e1.below (hall p).1 hp1
          have E2 : ∀ p : Abv V.heap.size V, At8 p.w p2 (o2 + jj * 8) (.agg #[.int .i64 k', .int .i64 m', .int .i64 a', .int .i64 b', .bool g', .string n', .slice s2' sl' sc2', .slice a2' nk' cap2']) := fun p => e2.below (hall p).1 hp2
          have r10 : ∀ p : Abv V.heap.size V, p.w.cell? ⟨p1, o1 + jj * 8, none⟩ = some (.int .i64 k') := fun p => by obtain ⟨_, _, _, _, _, _, _, _, ee, q0, q1, q2, q3, q4, q5, q6, q7⟩ := E1 p; simp only [Value.agg.injEq, Array.mk.injEq, List.cons.injEq, and_true] at ee; obtain ⟨rfl, rfl, rfl, rfl, rfl, rfl, rfl, rfl⟩ := ee; exact q0
          have r11 : ∀ p : Abv V.heap.size V, p.w.cell? ⟨p1, o1 + jj * 8 + 1, none⟩ = some (.int .i64 m') := fun p => by obtain ⟨_, _, _, _, _, _, _, _, ee, q0, q1, q2, q3, q4, q5, q6, q7⟩ := E1 p; simp only [Value.agg.injEq, Array.mk.injEq, List.cons.injEq, and_true] at ee; obtain ⟨rfl, rfl, rfl, rfl, rfl, rfl, rfl, rfl⟩ := ee; exact q1
          have r12 : ∀ p : Abv V.heap.size V, p.w.cell? ⟨p1, o1 + jj * 8 + 2, none⟩ = some (.int .i64 a') := fun p => by obtain ⟨_, _, _, _, _, _, _, _, ee, q0, q1, q2, q3, q4, q5, q6, q7⟩ := E1 p; simp only [Value.agg.injEq, Array.mk.injEq, List.cons.injEq, and_true] at ee; obtain ⟨rfl, rfl, rfl, rfl, rfl, rfl, rfl, rfl⟩ := ee; exact q2
          have r13 : ∀ p : Abv V.heap.size V, p.w.cell? ⟨p1, o1 + jj * 8 + 3, none⟩ = some (.int .i64 b') := fun p => by obtain ⟨_, _, _, _, _, _, _, _, ee, q0, q1, q2, q3, q4, q5, q6, q7⟩ := E1 p; simp only [Value.agg.injEq, Array.mk.injEq, List.cons.injEq, and_true] at ee; obtain ⟨rfl, rfl, rfl, rfl, rfl, rfl, rfl, rfl⟩ := ee; exact q3
          have r14 : ∀ p : Abv V.heap.size V, p.w.cell? ⟨p1, o1 + jj * 8 + 4, none⟩ = some (.bool g') := fun p => by obtain ⟨_, _, _, _, _, _, _, _, ee, q0, q1, q2, q3, q4, q5, q6, q7⟩ := E1 p; simp only [Value.agg.injEq, Array.mk.injEq, List.cons.injEq, and_true] at ee; obtain ⟨rfl, rfl, rfl, rfl, rfl, rfl, rfl, rfl⟩ := ee; exact q4
          have r15 : ∀ p : Abv V.heap.size V, p.w.cell? ⟨p1, o1 + jj * 8 + 5, none⟩ = some (.string n') := fun p => by obtain ⟨_, _, _, _, _, _, _, _, ee, q0, q1, q2, q3, q4, q5, q6, q7⟩ := E1 p; simp only [Value.agg.injEq, Array.mk.injEq, List.cons.injEq, and_true] at ee; obtain ⟨rfl, rfl, rfl, rfl, rfl, rfl, rfl, rfl⟩ := ee; exact q5
          have r16 : ∀ p : Abv V.heap.size V, p.w.cell? ⟨p1, o1 + jj * 8 + 6, none⟩ = some (.slice s1' sl' sc1') := fun p => by obtain ⟨_, _, _, _, _, _, _, _, ee, q0, q1, q2, q3, q4, q5, q6, q7⟩ := E1 p; simp only [Value.agg.injEq, Array.mk.injEq, List.cons.injEq, and_true] at ee; obtain ⟨rfl, rfl, rfl, rfl, rfl, rfl, rfl, rfl⟩ := ee; exact q6
          have r17 : ∀ p : Abv V.heap.size V, p.w.cell? ⟨p1, o1 + jj * 8 + 7, none⟩ = some (.slice a1' nk' cap1') := fun p => by obtain ⟨_, _, _, _, _, _, _, _, ee, q0, q1, q2, q3, q4, q5, q6, q7⟩ := E1 p; simp only [Value.agg.injEq, Array.mk.injEq, List.cons.injEq, and_true] at ee; obtain ⟨rfl, rfl, rfl, rfl, rfl, rfl, rfl, rfl⟩ := ee; exact q7
          have r20 : ∀ p : Abv V.heap.size V, p.w.cell? ⟨p2, o2 + jj * 8, none⟩ = some (.int .i64 k') := fun p => by obtain ⟨_, _, _, _, _, _, _, _, ee, q0, q1, q2, q3, q4, q5, q6, q7⟩ := E2 p; simp only [Value.agg.injEq, Array.mk.injEq, List.cons.injEq, and_true] at ee; obtain ⟨rfl, rfl, rfl, rfl, rfl, rfl, rfl, rfl⟩ := ee; exact q0
          have r21 : ∀ p : Abv V.heap.size V, p.w.cell? ⟨p2, o2 + jj * 8 + 1, none⟩ = some (.int .i64 m') := fun p => by obtain ⟨_, _, _, _, _, _, _, _, ee, q0, q1, q2, q3, q4, q5, q6, q7⟩ := E2 p; simp only [Value.agg.injEq, Array.mk.injEq, List.cons.injEq, and_true] at ee; obtain ⟨rfl, rfl, rfl, rfl, rfl, rfl, rfl, rfl⟩ := ee; exact q1
          have r22 : ∀ p : Abv V.heap.size V, p.w.cell? ⟨p2, o2 + jj * 8 + 2, none⟩ = some (.int .i64 a') := fun p => by obtain ⟨_, _, _, _, _, _, _, _, ee, q0, q1, q2, q3, q4, q5, q6, q7⟩ := E2 p; simp only [Value.agg.injEq, Array.mk.injEq, List.cons.injEq, and_true] at ee; obtain ⟨rfl, rfl, rfl, rfl, rfl, rfl, rfl, rfl⟩ := ee; exact q2
          have r23 : ∀ p : Abv V.heap.size V, p.w.cell? ⟨p2, o2 + jj * 8 + 3, none⟩ = some (.int .i64 b') := fun p => by obtain ⟨_, _, _, _, _, _, _, _, ee, q0, q1, q2, q3, q4, q5, q6, q7⟩ := E2 p; simp only [Value.agg.injEq, Array.mk.injEq, List.cons.injEq, and_true] at ee; obtain ⟨rfl, rfl, rfl, rfl, rfl, rfl, rfl, rfl⟩ := ee; exact q3
          have r24 : ∀ p : Abv V.heap.size V, p.w.cell? ⟨p2, o2 + jj * 8 + 4, none⟩ = some (.bool g') := fun p => by obtain ⟨_, _, _, _, _, _, _, _, ee, q0, q1, q2, q3, q4, q5, q6, q7⟩ := E2 p; simp only [Value.agg.injEq, Array.mk.injEq, List.cons.injEq, and_true] at ee; obtain ⟨rfl, rfl, rfl, rfl, rfl, rfl, rfl, rfl⟩ := ee; exact q4
          have r25 : ∀ p : Abv V.heap.size V, p.w.cell? ⟨p2, o2 + jj * 8 + 5, none⟩ = some (.string n') := fun p => by obtain ⟨_, _, _, _, _, _, _, _, ee, q0, q1, q2, q3, q4, q5, q6, q7⟩ := E2 p; simp only [Value.agg.injEq, Array.mk.injEq, List.cons.injEq, and_true] at ee; obtain ⟨rfl, rfl, rfl, rfl, rfl, rfl, rfl, rfl⟩ := ee; exact q5
          have r26 : ∀ p : Abv V.heap.size V, p.w.cell? ⟨p2, o2 + jj * 8 + 6, none⟩ = some (.slice s2' sl' sc2') := fun p => by obtain ⟨_, _, _, _, _, _, _, _, ee, q0, q1, q2, q3, q4, q5, q6, q7⟩ := E2 p; simp only [Value.agg.injEq, Array.mk.injEq, List.cons.injEq, and_true] at ee; obtain ⟨rfl, rfl, rfl, rfl, rfl, rfl, rfl, rfl⟩ := ee; exact q6
          have r27 : ∀ p : Abv V.heap.size V, p.w.cell? ⟨p2, o2 + jj * 8 + 7, none⟩ = some (.slice a2' nk' cap2') := fun p => by obtain ⟨_, _, _, _, _, _, _, _, ee, q0, q1, q2, q3, q4, q5, q6, q7⟩ := E2 p; simp only [Value.agg.injEq, Array.mk.injEq, List.cons.injEq, and_true] at ee; obtain ⟨rfl, rfl, rfl, rfl, rfl, rfl, rfl, rfl⟩ := ee; exact q7
          clear E1 E2 e1 e2 v1 v2 CI CC hall h1 h2 HK1 HK2 HI hmem ht hT
          rw [HV]
          clear HV HQ'
          go_wp2
          refine region_above V.heap.size V mixedS (by kernel_rfl) (Below.drew (Below.refl _ V)) ?_
          repeat (refine wpQuiet_step (fun K hK => ?_)
                  go_simp
                  first
                    | (refine hK _ ?_; clear hK K)
                    | (apply Exists.intro
                       refine ⟨fun _ => ?_, hK _ ?_⟩
                       (go_at_call 10; refine calls_above HCC.out _)
                       clear hK K))
          refine wpQuiet_nil ?_
          rintro _ ⟨p, rfl⟩
          have HP : Hid (Q2n w #[.int .i64 k, .int .i64 m, .int .i64 a, .int .i64 b, .bool ng, .string n, .slice sa1 sl sc1, .slice (some ⟨p1, o1, none⟩) nk cap1] #[.int .i64 k, .int .i64 m, .int .i64 a, .int .i64 b, .bool ng, .string n, .slice sa2 sl sc2, .slice (some ⟨p2, o2, none⟩) nk cap2] p.w) := HQV.out.on p.h
          clear f7 g7 r10 r11 r12 r13 r14 r15 r16 r17 r20 r21 r22 r23 r24 r25 r26 r27 HQV HCC
          go_wp2
          go_roundw
          case rel => exact ⟨jj + 1, by omega, by go_num, HP⟩
          case measure => simp [intOf]; omega
        · clear HK1 HK2 HI
          go_wp2
          go_ret
          exact ⟨rfl, HQ'.out.1⟩
theorem same_any : ∀ (N : Nat) (t : Nd) (v1 v2 : Value) (w : World), t.sz ≤ N → NV w.heap.size w t v1 → NV w.heap.size w t v2 → Calls Tryz.prog 10 #[v1, v2] w fun e w' => e = .returned (.bool true) ∧ Below w.heap.size w w' := by
  intro N
  induction N with
  | zero => intro t v1 v2 w h; obtain ⟨k, m, a, b, g, n, st, ks⟩ := t; rw [Nd.sz] at h; omega
  | succ N ih =>
    intro t v1 v2 w hN h1 h2
    obtain ⟨k, m, a, b, g, n, st, ks, sa1, sc1, ao1, cap1, rfl, rfl, _, _, hs1, hk1, hm1, _, hkv1⟩ := h1.open
    obtain ⟨_, _, _, _, _, _, _, _, sa2, sc2, ao2, cap2, e, rfl, _, _, hs2, hk2, hm2, _, hkv2⟩ := h2.open
    cases e
    rw [Nd.sz] at hN
    unfold maxLen at *
    exact same_step k m a b g n st ks sa1 sa2 _ sc1 sc2 ao1 ao2 _ cap1 cap2 w rfl rfl ⟨hs1.2.2.1, by omega⟩ ⟨hs2.2.2.1, by omega⟩ ⟨hk1, by omega⟩ ⟨hk2, by omega⟩ ⟨hs1.1, hs1.2.1⟩ ⟨hs2.1, hs2.2.1⟩ hkv1 hkv2 (fun t ht v1 v2 W g1 g2 => ih t v1 v2 W (by have := szL_mem ht; omega) g1 g2)
end Go.Proofs.YtjbcapnpknbbaaaGreat.tre
end
