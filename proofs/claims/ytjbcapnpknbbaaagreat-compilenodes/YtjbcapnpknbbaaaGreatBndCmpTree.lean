/- Texts that the proof leans on, one behind the other. -/
import Derived.Test.YtjbcapnpknbbaaaGreatBndCmpChoice
import Derived.Test.YtjbcapnpknbbaaaGreatBndWidFrom
import Derived.Test.YtjbcapnpknbbaaaGreatLowPl2
import Derived.Deep.RegionHeld3
import Derived.Deep.RegionWith
import Derived.Deep.LoopGhost
import Derived.Deep.CutBlock

section
/- The program of a tree of sets, as a plain list, and how a list in memory reads as it. -/
set_option linter.unusedVariables false
set_option linter.unusedSimpArgs false
namespace Go.Proofs.YtjbcapnpknbbaaaGreat.cmp
open Go.RowKit nod
open Go.Proofs.YtjbcapnpknbbaaaGreat.rng (R RV)
open Go.Proofs.YtjbcapnpknbbaaaGreat.wid (ofN)
open Go.Proofs.YtjbcapnpknbbaaaGreat.low (standP kidsP plN plL plL_all)
variable {α β : Type}

/-- A repetition, possessive or not. -/
def repAny (e : α) (m a b : Int) (kid : Pc α) : Pc α := if m = 2 then blockP e (ins e 9 0 0) (repP e 0 a b kid) else repP e m a b kid
/-- What a node becomes whose kids become these. -/
def pieceP (e : α) (k m a b : Int) (st : α) (x : R) (L : List (Pc α)) : Pc α :=
  if k = 15 then oneP ⟨1, 0, 0, 0, 0, st⟩ else if k = 7 then choiceP e L else if k = 8 then repAny e m a b (rowP L) else if k = 10 then blockP e ⟨8, m, 0, x.1, x.2, e⟩ (rowP L) else if k = 11 then blockP e (ins e 9 0 0) (rowP L) else if k = 12 then oneP (ins e 5 m 0) else if k = 13 then oneP (ins e 7 a 0) else if k = 14 then oneP (ins e 6 0 0) else if k = 9 ∧ 0 < a then savedP e a (rowP L) else rowP L
/-- How much a look behind takes. -/
def lkW (m : Int) (ks : List Nd) : R := if m = 2 ∨ m = 3 then (match ks with | t :: _ => ofN t | [] => (0, 0)) else (0, 0)
def goes (k b : Int) : Bool := kidsP k && !(k == 8 && b == 0)
mutual
def pcN : Nd → Pc (List R)
  | .mk k m a b _ _ s ks => pieceP [] k m a b s (lkW m ks) (if goes k b then pcL ks else [])
def pcL : List Nd → List (Pc (List R))
  | [] => []
  | t :: ts => pcN t :: pcL ts
end
theorem pcL_map : ∀ ks : List Nd, pcL ks = ks.map pcN
  | [] => by rw [pcL]; rfl
  | t :: ts => by rw [pcL, pcL_map ts]; rfl

/-- Instructions that are the same but for their sets, of which Q holds. -/
structure RI (Q : α → β → Prop) (i : Is α) (j : Is β) : Prop where
  op : i.op = j.op
  x : i.x = j.x
  y : i.y = j.y
  mn : i.mn = j.mn
  mx : i.mx = j.mx
  set : Q i.set j.set
inductive RL (Q : α → β → Prop) : List (Is α) → List (Is β) → Prop
  | nil : RL Q [] []
  | cons {i j l r} : RI Q i j → RL Q l r → RL Q (i :: l) (j :: r)
theorem RL.len {Q : α → β → Prop} {l r} (h : RL Q l r) : l.length = r.length := by
  induction h with
  | nil => rfl
  | cons _ _ ih => simp [ih]
theorem RL.append {Q : α → β → Prop} {l r l' r'} (h : RL Q l r) (h' : RL Q l' r') : RL Q (l ++ l') (r ++ r') := by
  induction h with
  | nil => exact h'
  | cons a _ ih => exact .cons a ih
theorem RI.mv {Q : α → β → Prop} {i j} (h : RI Q i j) (p m : Int) : RI Q (mv p m i) (mv p m j) := by
  obtain ⟨h1, h2, h3, h4, h5, h6⟩ := h
  unfold cmp.mv
  rw [h1]
  by_cases c2 : j.op = 2
  · rw [if_pos c2, if_pos c2]; exact ⟨rfl, by simp [h2], by simp [h3], h4, h5, h6⟩
  by_cases c3 : j.op = 3
  · rw [if_neg c2, if_pos c3, if_neg c2, if_pos c3]; exact ⟨rfl, by simp [h2], h3, h4, h5, h6⟩
  by_cases c10 : j.op = 10
  · rw [if_neg c2, if_neg c3, if_pos c10, if_neg c2, if_neg c3, if_pos c10]; exact ⟨rfl, by simp [h2], h3, h4, h5, h6⟩
  by_cases c11 : j.op = 11
  · rw [if_neg c2, if_neg c3, if_neg c10, if_pos c11, if_neg c2, if_neg c3, if_neg c10, if_pos c11]; exact ⟨rfl, by simp [h2], by simp [h3], h4, h5, h6⟩
  by_cases c8 : j.op = 8 ∨ j.op = 9
  · rw [if_neg c2, if_neg c3, if_neg c10, if_neg c11, if_pos c8, if_neg c2, if_neg c3, if_neg c10, if_neg c11, if_pos c8]; exact ⟨rfl, h2, by simp [h3], h4, h5, h6⟩
  · rw [if_neg c2, if_neg c3, if_neg c10, if_neg c11, if_neg c8, if_neg c2, if_neg c3, if_neg c10, if_neg c11, if_neg c8]; exact ⟨h1, h2, h3, h4, h5, h6⟩
theorem RL.mv {Q : α → β → Prop} {l r} (h : RL Q l r) (p m : Int) : RL Q (l.map (cmp.mv p m)) (r.map (cmp.mv p m)) := by
  induction h with
  | nil => exact .nil
  | cons a _ ih => exact .cons (a.mv p m) ih
/-- Pieces that are the same but for their sets. -/
def RP (Q : α → β → Prop) (p : Pc α) (r : Pc β) : Prop := RL Q p.1 r.1 ∧ p.2 = r.2
theorem RP.len {Q : α → β → Prop} {p r} (h : RP Q p r) : p.1.length = r.1.length := h.1.len
theorem RP.zero {Q : α → β → Prop} : RP Q ([], 0) ([], 0) := ⟨.nil, rfl⟩
theorem RP.one {Q : α → β → Prop} {i j} (h : RI Q i j) : RP Q (oneP i) (oneP j) := ⟨.cons h .nil, rfl⟩
theorem RP.add {Q : α → β → Prop} {p r p' r'} (h : RP Q p r) (h' : RP Q p' r') : RP Q (addP p p') (addP r r') := by
  refine ⟨?_, by simp only [addP, h.2, h'.2]⟩
  simp only [addP]
  rw [h.len, h.2]
  exact h.1.append (h'.1.mv _ _)
theorem RP.put {Q : α → β → Prop} {p r l l'} (h : RP Q p r) (h' : RL Q l l') : RP Q (putP p l) (putP r l') := ⟨h.1.append h', h.2⟩
inductive RS (Q : α → β → Prop) : List (Pc α) → List (Pc β) → Prop
  | nil : RS Q [] []
  | cons {p r l s} : RP Q p r → RS Q l s → RS Q (p :: l) (r :: s)
theorem RS.row {Q : α → β → Prop} {l s} (h : RS Q l s) : RP Q (rowP l) (rowP s) := by
  induction h with
  | nil => exact RP.zero
  | cons a _ ih => rw [rowP_cons, rowP_cons]; exact a.add ih
theorem RS.len {Q : α → β → Prop} {l s} (h : RS Q l s) : l.length = s.length := by
  induction h with
  | nil => rfl
  | cons _ _ ih => simp [ih]
theorem RS.lens {Q : α → β → Prop} {l s} (h : RS Q l s) : lensP l = lensP s := by
  induction h with
  | nil => rfl
  | cons a _ ih => simp only [lensP, List.map_cons, List.sum_cons] at *; rw [ih, a.len]
theorem RS.snoc {Q : α → β → Prop} {l s p r} (h : RS Q l s) (h' : RP Q p r) : RS Q (l ++ [p]) (s ++ [r]) := by
  induction h with
  | nil => exact .cons h' .nil
  | cons a _ ih => exact .cons a ih
variable {Q : α → β → Prop} {e : α} {f : β}
theorem ri_ins (h : Q e f) (o x y : Int) : RI Q (ins e o x y) (ins f o x y) := ⟨rfl, rfl, rfl, rfl, rfl, h⟩
theorem ri_split (h : Q e f) (m x y : Int) : RI Q (splitI e m x y) (splitI f m x y) := by
  unfold splitI; split <;> exact ri_ins h _ _ _
theorem RP.saved (h : Q e f) {p r} (k : Int) (hp : RP Q p r) : RP Q (savedP e k p) (savedP f k r) := RS.row (.cons (.one (ri_ins h _ _ _)) (.cons hp (.cons (.one (ri_ins h _ _ _)) .nil)))
theorem RP.block (h : Q e f) {p r} {i : Is α} {j : Is β} (hi : RI Q i j) (hp : RP Q p r) : RP Q (blockP e i p) (blockP f j r) := by
  refine RS.row (.cons (.one ⟨hi.op, hi.x, ?_, hi.mn, hi.mx, hi.set⟩) (.cons hp (.cons (.one (ri_ins h _ _ _)) .nil)))
  simp only [hp.len]
theorem RP.loop (h : Q e f) {p r} (m : Int) (hp : RP Q p r) : RP Q (loopP e m p) (loopP f m r) := by
  unfold loopP
  rw [hp.len]
  have h1 : RP Q (([splitI e m 1 ((r.1.length : Int) + 4), ins e 10 0 0], 1) : Pc α) (([splitI f m 1 ((r.1.length : Int) + 4), ins f 10 0 0], 1) : Pc β) := ⟨.cons (ri_split h _ _ _) (.cons (ri_ins h _ _ _) .nil), rfl⟩
  exact (h1.add hp).put (.cons (ri_ins h _ _ _) (.cons (ri_ins h _ _ _) .nil))
theorem RP.times {p r} (hp : RP Q p r) : ∀ n, RP Q (timesP n p) (timesP n r)
  | 0 => RP.zero
  | n + 1 => (RP.times hp n).add hp
theorem RP.may (h : Q e f) {p r} (m o : Int) (hp : RP Q p r) : ∀ (n : Nat) {a b}, RP Q a b → RP Q (mayP e m o p n a) (mayP f m o r n b)
  | 0, a, b, hab => hab
  | n + 1, a, b, hab => by
    rw [mayP, mayP, hab.len]
    exact RP.may h m o hp n ((hab.put (.cons (ri_split h _ _ _) .nil)).add hp)
theorem RP.rep (h : Q e f) {p r} (m a b : Int) (hp : RP Q p r) : RP Q (repP e m a b p) (repP f m a b r) := by
  unfold repP
  rw [hp.len]
  split
  · exact (hp.times _).add (hp.loop h m)
  · exact hp.may h m _ _ (hp.times _)
theorem RP.repAny (h : Q e f) {p r} (m a b : Int) (hp : RP Q p r) : RP Q (cmp.repAny e m a b p) (cmp.repAny f m a b r) := by
  unfold cmp.repAny
  split
  · exact (hp.rep h 0 a b).block h (ri_ins h _ _ _)
  · exact hp.rep h m a b
theorem RS.chGo (h : Q e f) (o : Int) {l s} (hl : RS Q l s) : ∀ {a b}, RP Q a b → RP Q (cmp.chGo e o l a) (cmp.chGo f o s b) := by
  induction hl with
  | nil => intro a b hab; exact hab
  | @cons p r l s hp hl ih =>
    intro a b hab
    cases hl with
    | nil => exact hab.add hp
    | cons hp2 hl2 =>
      rw [cmp.chGo, cmp.chGo]
      refine ih (((RP.put (RP.add (hab.put (.cons ?_ .nil)) hp)) (.cons (ri_ins h _ _ _) .nil)))
      rw [hab.len, hp.len]
      exact ri_ins h _ _ _
theorem RS.choice (h : Q e f) {l s} (hl : RS Q l s) : RP Q (choiceP e l) (choiceP f s) := by
  unfold choiceP
  rw [hl.len, hl.lens]
  exact hl.chGo h _ RP.zero
theorem RS.piece (h : Q e f) {l s} (k m a b : Int) {st : α} {su : β} (hs : Q st su) (x : R) (hl : RS Q l s) : RP Q (pieceP e k m a b st x l) (pieceP f k m a b su x s) := by
  unfold pieceP
  split
  · exact .one ⟨rfl, rfl, rfl, rfl, rfl, hs⟩
  split
  · exact hl.choice h
  split
  · exact hl.row.repAny h m a b
  split
  · exact hl.row.block h ⟨rfl, rfl, rfl, rfl, rfl, h⟩
  split
  · exact hl.row.block h (ri_ins h _ _ _)
  split
  · exact .one (ri_ins h _ _ _)
  split
  · exact .one (ri_ins h _ _ _)
  split
  · exact .one (ri_ins h _ _ _)
  split
  · exact hl.row.saved h a
  · exact hl.row

theorem len_savedP (e : α) (k : Int) (p : Pc α) : (savedP e k p).1.length = p.1.length + 2 := by simp [savedP, len_rowP, lensP, oneP]; omega
theorem len_blockP (e : α) (i : Is α) (p : Pc α) : (blockP e i p).1.length = p.1.length + 2 := by simp [blockP, len_rowP, lensP, oneP]; omega
/-- A repetition that is gone through is no shorter than its kid. -/
theorem len_repP (e : α) (m a b : Int) (p : Pc α) (ha : 0 ≤ a) (hb : b = -1 ∨ (a ≤ b ∧ 0 < b)) : p.1.length ≤ (repP e m a b p).1.length := by
  unfold repP
  split
  · rw [len_addP, len_loopP]; omega
  · rename_i hne
    obtain ⟨h1, h2⟩ : a ≤ b ∧ 0 < b := by rcases hb with h | h; exact (hne h).elim; exact h
    rw [len_mayP, len_timesP]
    by_cases h0 : a.toNat = 0
    · have : 1 ≤ (b - a).toNat := by omega
      have := Nat.mul_le_mul_right (p.1.length + 1) this
      omega
    · have : 1 ≤ a.toNat := by omega
      have := Nat.mul_le_mul_right p.1.length this
      omega
theorem len_piece_ge (e : α) (k m a b : Int) (st : α) (x : R) (L : List (Pc α)) (hk : kidsP k = true) (h8 : k = 8 → 0 ≤ a ∧ (b = -1 ∨ (a ≤ b ∧ 0 < b))) : lensP L ≤ (pieceP e k m a b st x L).1.length := by
  have hkk := low.kids_of hk
  unfold pieceP
  rw [if_neg (by omega)]
  by_cases c7 : k = 7
  · rw [if_pos c7]; unfold choiceP; rw [len_chGo]; omega
  rw [if_neg c7]
  by_cases c8 : k = 8
  · rw [if_pos c8]
    obtain ⟨h1, h2⟩ := h8 c8
    unfold repAny
    split
    · rw [len_blockP]; have := len_repP e 0 a b (rowP L) h1 h2; rw [len_rowP] at this; omega
    · have := len_repP e m a b (rowP L) h1 h2; rw [len_rowP] at this; omega
  rw [if_neg c8]
  by_cases c10 : k = 10
  · rw [if_pos c10, len_blockP, len_rowP]; omega
  rw [if_neg c10]
  by_cases c11 : k = 11
  · rw [if_pos c11, len_blockP, len_rowP]; omega
  rw [if_neg c11, if_neg (by omega), if_neg (by omega), if_neg (by omega)]
  split
  · rw [len_savedP, len_rowP]; omega
  · rw [len_rowP]; omega
end Go.Proofs.YtjbcapnpknbbaaaGreat.cmp
end

section
/- repeated at any mode, lookOf, pieceOf. -/
set_option linter.unusedVariables false
set_option linter.unusedSimpArgs false
namespace Go.Proofs.YtjbcapnpknbbaaaGreat.cmp
open Go.RowKit nod
open Go.Proofs.YtjbcapnpknbbaaaGreat.wid (ofN)
open Go.Proofs.YtjbcapnpknbbaaaGreat.low (standP kidsP)
open Go.Proofs.YtjbcapnpknbbaaaGreat.rng (R RV info_parts)

theorem rep0_any (k m a b : Int) (g : Bool) (s : ByteArray) (sa : Option Addr) (sl sc : Nat) (ao : Option Addr) (nk cap : Nat) (q : Pp) (w : World) (hm : ¬ m = 2) (ha : 0 ≤ a ∧ a ≤ 100) (hb : b = -1 ∨ (a ≤ b ∧ b ≤ 100)) (hq : PV w 0 q) (hn : q.kn ≤ 5000) :
    Calls Tryz.prog 94 #[.agg #[.int .i64 k, .int .i64 m, .int .i64 a, .int .i64 b, .bool g, .string s, .slice sa sl sc, .slice ao nk cap], .agg #[.slice q.ka q.kn q.kc, .int .i64 q.p.2]] w fun e w' => ∃ r : Pp, e = .returned (.agg #[.slice r.ka r.kn r.kc, .int .i64 r.p.2]) ∧ r.p = repP sn m a b q.p ∧ PV w' w.heap.size r ∧ Below w.heap.size w w' := by
  obtain ⟨an, rfl⟩ := Int.eq_ofNat_of_zero_le ha.1
  rcases hb with rfl | ⟨h1, h2⟩
  · exact rep_loop k m an g s sa sl sc ao nk cap q w hm (by omega) hq hn
  · obtain ⟨c, rfl⟩ : ∃ c : Nat, b = (an : Int) + (c : Int) := ⟨(b - an).toNat, by omega⟩
    exact rep_times k m an c g s sa sl sc ao nk cap q w hm (by omega) (by omega) hq hn
set_option maxRecDepth 10000 in
set_option maxHeartbeats 16000000 in
theorem rep2_any (k a b : Int) (g : Bool) (s : ByteArray) (sa : Option Addr) (sl sc : Nat) (ao : Option Addr) (nk cap : Nat) (q : Pp) (w : World) (ha : 0 ≤ a ∧ a ≤ 100) (hb : b = -1 ∨ (a ≤ b ∧ b ≤ 100)) (hq : PV w 0 q) (hn : q.kn ≤ 5000) (hl : (repP sn 0 a b q.p).1.length ≤ 900000) :
    Calls Tryz.prog 94 #[.agg #[.int .i64 k, .int .i64 2, .int .i64 a, .int .i64 b, .bool g, .string s, .slice sa sl sc, .slice ao nk cap], .agg #[.slice q.ka q.kn q.kc, .int .i64 q.p.2]] w fun e w' => ∃ r : Pp, e = .returned (.agg #[.slice r.ka r.kn r.kc, .int .i64 r.p.2]) ∧ r.p = blockP sn (ins sn 9 0 0) (repP sn 0 a b q.p) ∧ PV w' w.heap.size r ∧ Below w.heap.size w w' := by
  obtain ⟨ka, kn, kc, p⟩ := q
  have hfit := hq.fit
  simp only at *
  have HBW : Hid (Below w.heap.size w (((w.alloc (.cells #[.int .i64 k, .int .i64 0, .int .i64 a, .int .i64 b, .bool g, .string s, .slice sa sl sc, .slice ao nk cap] 25)).alloc (.cells #[.slice ka kn kc, .int .i64 p.2] 55)).alloc (.cells #[.slice none 0 0, .int .i64 0] 55))) := (below2 _ _ _).trans (((Below.refl _ _).alloc (Nat.le_refl _) _).mono (by simp; omega))
  have HNX : Hid (Bk (((w.alloc (.cells #[.int .i64 k, .int .i64 0, .int .i64 a, .int .i64 b, .bool g, .string s, .slice sa sl sc, .slice ao nk cap] 25)).alloc (.cells #[.slice ka kn kc, .int .i64 p.2] 55)).alloc (.cells #[.slice none 0 0, .int .i64 0] 55)) w.heap.size #[.int .i64 k, .int .i64 0, .int .i64 a, .int .i64 b, .bool g, .string s, .slice sa sl sc, .slice ao nk cap] 25) := ((Bk.new w _ _).past _).past _
  have HKX : Hid (Bk (((w.alloc (.cells #[.int .i64 k, .int .i64 0, .int .i64 a, .int .i64 b, .bool g, .string s, .slice sa sl sc, .slice ao nk cap] 25)).alloc (.cells #[.slice ka kn kc, .int .i64 p.2] 55)).alloc (.cells #[.slice none 0 0, .int .i64 0] 55)) (w.heap.size + 1) #[.slice ka kn kc, .int .i64 p.2] 55) := bk2.past _
  have HR : Hid (Bk (((w.alloc (.cells #[.int .i64 k, .int .i64 0, .int .i64 a, .int .i64 b, .bool g, .string s, .slice sa sl sc, .slice ao nk cap] 25)).alloc (.cells #[.slice ka kn kc, .int .i64 p.2] 55)).alloc (.cells #[.slice none 0 0, .int .i64 0] 55)) (w.heap.size + 1 + 1) #[.slice none 0 0, .int .i64 0] 55) := by
    have := Bk.new ((w.alloc (.cells #[.int .i64 k, .int .i64 0, .int .i64 a, .int .i64 b, .bool g, .string s, .slice sa sl sc, .slice ao nk cap] 25)).alloc (.cells #[.slice ka kn kc, .int .i64 p.2] 55)) #[.slice none 0 0, .int .i64 0] 55
    simpa [Hid] using this
  have C1 := rep0_any k 0 a b g s sa sl sc ao nk cap ⟨ka, kn, kc, p⟩ (((w.alloc (.cells #[.int .i64 k, .int .i64 0, .int .i64 a, .int .i64 b, .bool g, .string s, .slice sa sl sc, .slice ao nk cap] 25)).alloc (.cells #[.slice ka kn kc, .int .i64 p.2] 55)).alloc (.cells #[.slice none 0 0, .int .i64 0] 55)) (by decide) ha hb (hq.on HBW.out) hn
  simp only at C1
  have hz : (((w.alloc (.cells #[.int .i64 k, .int .i64 0, .int .i64 a, .int .i64 b, .bool g, .string s, .slice sa sl sc, .slice ao nk cap] 25)).alloc (.cells #[.slice ka kn kc, .int .i64 p.2] 55)).alloc (.cells #[.slice none 0 0, .int .i64 0] 55)).heap.size = w.heap.size + 1 + 1 + 1 := by simp
  have HLL : Hid ((repP sn 0 a b p).1.length ≤ 900000) := hl
  clear hq ha hb hl hfit
  have n0 := HNX.out.cell 0 (u := .int .i64 k) rfl
  have n1 := HNX.out.cell 1 (u := .int .i64 0) rfl
  have n2 := HNX.out.cell 2 (u := .int .i64 a) rfl
  have n3 := HNX.out.cell 3 (u := .int .i64 b) rfl
  have n4 := HNX.out.cell 4 (u := .bool g) rfl
  have n5 := HNX.out.cell 5 (u := .string s) rfl
  have n6 := HNX.out.cell 6 (u := .slice sa sl sc) rfl
  have n7 := HNX.out.cell 7 (u := .slice ao nk cap) rfl
  have k0 := HKX.out.cell 0 (u := .slice ka kn kc) rfl
  have k1 := HKX.out.cell 1 (u := .int .i64 p.2) rfl
  generalize hW1 : (((w.alloc (.cells #[.int .i64 k, .int .i64 0, .int .i64 a, .int .i64 b, .bool g, .string s, .slice sa sl sc, .slice ao nk cap] 25)).alloc (.cells #[.slice ka kn kc, .int .i64 p.2] 55)).alloc (.cells #[.slice none 0 0, .int .i64 0] 55)) = w1 at *
  have HW1 : Hid ((((w.alloc (.cells #[.int .i64 k, .int .i64 0, .int .i64 a, .int .i64 b, .bool g, .string s, .slice sa sl sc, .slice ao nk cap] 25)).alloc (.cells #[.slice ka kn kc, .int .i64 p.2] 55)).alloc (.cells #[.slice none 0 0, .int .i64 0] 55)) = w1) := hW1
  go_enter Tryz.func94, Tryz.ntmps94
  go_wp2_with (first
    | (go_at_call 94; (try rw [HW1.out]); refine C1.mono ?_; rintro e w2 ⟨r2, rfl, hr2, hv2, b2⟩; have B2 : Hid (Below w1.heap.size w1 w2) := b2; have C2 := block_any 9 0 0 0 0 none 0 0 r2 w2 (by omega) (hv2.wide (Nat.zero_le _)) (by rw [← hv2.len, hr2]; exact HLL.out); rw [hr2] at C2; rw [hr2]; clear hv2 b2 C1)
    | (go_at_call 95; refine C2.mono ?_; rintro e w5 ⟨r, rfl, hr, hv, b5⟩; have B5 : Hid (Below w1.heap.size w1 w5) := B2.out.trans (below_less b5 B2.out.size); have HPR : Hid (r.p = blockP sn (ins sn 9 0 0) (repP sn 0 a b p) ∧ PV w5 w1.heap.size r) := ⟨hr, hv.wide B2.out.size⟩; have HR5 : Hid (Bk w5 (w.heap.size + 1 + 1) #[.slice none 0 0, .int .i64 0] 55) := HR.out.on B5.out; have t0 := HR5.out.cell 0 (u := .slice none 0 0) rfl; have t1 := HR5.out.cell 1 (u := .int .i64 0) rfl; have f0 := HR5.out.frozen 0; have f1 := HR5.out.frozen 1; clear hr hv b5 C2))
  refine bodyPost_ret (results_cell_row Tryz.results94 _ _ (w.heap.size + 1 + 1) _ #[.slice r.ka r.kn r.kc, .int .i64 r.p.2] _ _ rfl (HR5.out.set2 _ _) Tryz.underlying55 rfl infP) rfl ?_
  exact ⟨r, rfl, HPR.out.1, ((HPR.out.2.set (by omega) 0 _).set (by omega) 1 _).wide (by omega), ((HBW.out.trans (below_less B5.out (by omega))).setCell (p := ⟨w.heap.size + 1 + 1, 0, none⟩) (by simp; omega) _).setCell (p := ⟨w.heap.size + 1 + 1, 1, none⟩) (by simp; omega) _⟩
theorem len_repP_le (e : SV) (m a b : Int) (p : Pc SV) (ha : 0 ≤ a ∧ a ≤ 100) (hb : b = -1 ∨ (a ≤ b ∧ b ≤ 100)) (hp : p.1.length ≤ 5000) : (repP e m a b p).1.length ≤ 600000 := by
  obtain ⟨an, rfl⟩ := Int.eq_ofNat_of_zero_le ha.1
  have h1 : an * p.1.length ≤ 100 * 5000 := Nat.mul_le_mul (by omega) hp
  unfold repP
  split
  · rw [len_addP, len_timesP, len_loopP]; simp only [Int.toNat_natCast]; omega
  · rename_i hne
    obtain ⟨g1, g2⟩ : (an : Int) ≤ b ∧ b ≤ 100 := by rcases hb with h | h; exact (hne h).elim; exact h
    obtain ⟨c, rfl⟩ : ∃ c : Nat, b = (an : Int) + (c : Int) := ⟨(b - an).toNat, by omega⟩
    rw [len_mayP, len_timesP, show ((an : Int) + (c : Int) - (an : Int)).toNat = c by omega]
    simp only [Int.toNat_natCast]
    have h2 : (an + c) * p.1.length ≤ 100 * 5000 := Nat.mul_le_mul (by omega) hp
    rw [Nat.add_mul] at h2
    rw [Nat.mul_add]
    omega
theorem repeated_any (k m a b : Int) (g : Bool) (s : ByteArray) (sa : Option Addr) (sl sc : Nat) (ao : Option Addr) (nk cap : Nat) (q : Pp) (w : World) (ha : 0 ≤ a ∧ a ≤ 100) (hb : b = -1 ∨ (a ≤ b ∧ b ≤ 100)) (hq : PV w 0 q) (hn : q.kn ≤ 5000) :
    Calls Tryz.prog 94 #[.agg #[.int .i64 k, .int .i64 m, .int .i64 a, .int .i64 b, .bool g, .string s, .slice sa sl sc, .slice ao nk cap], .agg #[.slice q.ka q.kn q.kc, .int .i64 q.p.2]] w fun e w' => ∃ r : Pp, e = .returned (.agg #[.slice r.ka r.kn r.kc, .int .i64 r.p.2]) ∧ r.p = repAny sn m a b q.p ∧ PV w' w.heap.size r ∧ Below w.heap.size w w' := by
  unfold repAny
  by_cases hm : m = 2
  · subst hm; rw [if_pos rfl]
    exact rep2_any k a b g s sa sl sc ao nk cap q w ha hb hq hn (by have := len_repP_le sn 0 a b q.p ha hb (by rw [hq.len]; exact hn); omega)
  · rw [if_neg hm]; exact rep0_any k m a b g s sa sl sc ao nk cap q w hm ha hb hq hn
end Go.Proofs.YtjbcapnpknbbaaaGreat.cmp
end

section
/- lookOf. -/
set_option linter.unusedVariables false
set_option linter.unusedSimpArgs false
namespace Go.Proofs.YtjbcapnpknbbaaaGreat.cmp
open Go.RowKit nod
open Go.Proofs.YtjbcapnpknbbaaaGreat.wid (ofN)
open Go.Proofs.YtjbcapnpknbbaaaGreat.low (standP kidsP)
open Go.Proofs.YtjbcapnpknbbaaaGreat.rng (R RV info_parts)

theorem bk_set6 {w : World} {g : Nat} {a b c d e f : Value} {t : TypeId} (h : Bk w g #[a, b, c, d, e, f] t) (u0 u1 u2 u3 u4 u5 : Value) : Bk ((((((w.setCell ⟨g, 0, none⟩ u0).setCell ⟨g, 1, none⟩ u1).setCell ⟨g, 2, none⟩ u2).setCell ⟨g, 3, none⟩ u3).setCell ⟨g, 4, none⟩ u4).setCell ⟨g, 5, none⟩ u5) g #[u0, u1, u2, u3, u4, u5] t := by
  have := (((((h.set 0 u0).set 1 u1).set 2 u2).set 3 u3).set 4 u4).set 5 u5
  simpa using this
theorem below_set6 {B : Nat} {a w : World} {g : Nat} (h : Below B a w) (hg : B ≤ g) (u0 u1 u2 u3 u4 u5 : Value) : Below B a ((((((w.setCell ⟨g, 0, none⟩ u0).setCell ⟨g, 1, none⟩ u1).setCell ⟨g, 2, none⟩ u2).setCell ⟨g, 3, none⟩ u3).setCell ⟨g, 4, none⟩ u4).setCell ⟨g, 5, none⟩ u5) :=
  (((((h.setCell (p := ⟨g, 0, none⟩) hg u0).setCell (p := ⟨g, 1, none⟩) hg u1).setCell (p := ⟨g, 2, none⟩) hg u2).setCell (p := ⟨g, 3, none⟩) hg u3).setCell (p := ⟨g, 4, none⟩) hg u4).setCell (p := ⟨g, 5, none⟩) hg u5
set_option maxRecDepth 10000 in
set_option maxHeartbeats 16000000 in
theorem looks_any (m mn mx y : Int) (ia : Option Addr) (il ic : Nat) (w : World) : Calls Tryz.prog 101 #[.agg #[.int .i64 8, .int .i64 m, .int .i64 y, .int .i64 mn, .int .i64 mx, .slice ia il ic]] w fun e w' => e = .returned (.bool (m == 2 || m == 3)) ∧ Below w.heap.size w w' := by
  have HB : Hid (Below w.heap.size w (w.alloc (.cells #[.int .i64 8, .int .i64 m, .int .i64 y, .int .i64 mn, .int .i64 mx, .slice ia il ic] 66))) := (Below.refl _ w).alloc (Nat.le_refl _) _
  by_cases h2 : m = 2
  · subst h2
    go_enter Tryz.func101, Tryz.ntmps101
    go_wp2
    go_ret
    exact ⟨rfl, HB.out⟩
  by_cases h3 : m = 3
  · subst h3
    go_enter Tryz.func101, Tryz.ntmps101
    go_wp2
    go_ret
    exact ⟨rfl, HB.out⟩
  have f2 : (m == 2) = false := by simpa using h2
  have f3 : (m == 3) = false := by simpa using h3
  rw [f2, f3]
  clear h2 h3
  go_enter Tryz.func101, Tryz.ntmps101
  go_wp2
  go_ret
  exact ⟨rfl, HB.out⟩
set_option maxRecDepth 10000 in
set_option maxHeartbeats 16000000 in
theorem lookOf_any (k m a b : Int) (g : Bool) (s : ByteArray) (sa : Option Addr) (sl sc : Nat) (ao : Option Addr) (nk cap : Nat) (ks : List Nd) (B : Nat) (w : World) (HL : Hid (ks.length = nk)) (h1 : 1 ≤ nk) (hsz : szL ks ≤ 100000000) (hBw : B ≤ w.heap.size) (HK : Hid (KV B w ao ks)) :
    Calls Tryz.prog 96 #[.agg #[.int .i64 k, .int .i64 m, .int .i64 a, .int .i64 b, .bool g, .string s, .slice sa sl sc, .slice ao nk cap]] w fun e w' => e = .returned (.agg #[.int .i64 8, .int .i64 m, .int .i64 0, .int .i64 (lkW m ks).1, .int .i64 (lkW m ks).2, .slice none 0 0]) ∧ Below w.heap.size w w' := by
  have HBW : Hid (Below w.heap.size w (((w.alloc (.cells #[.int .i64 k, .int .i64 m, .int .i64 a, .int .i64 b, .bool g, .string s, .slice sa sl sc, .slice ao nk cap] 25)).alloc (.cells #[.int .i64 0, .int .i64 0, .int .i64 0, .int .i64 0, .int .i64 0, .slice none 0 0] 66)).alloc (.cells #[.int .i64 8, .int .i64 m, .int .i64 0, .int .i64 0, .int .i64 0, .slice none 0 0] 66))) := (below2 _ _ _).trans (((Below.refl _ _).alloc (Nat.le_refl _) _).mono (by simp; omega))
  have HNX : Hid (Bk (((w.alloc (.cells #[.int .i64 k, .int .i64 m, .int .i64 a, .int .i64 b, .bool g, .string s, .slice sa sl sc, .slice ao nk cap] 25)).alloc (.cells #[.int .i64 0, .int .i64 0, .int .i64 0, .int .i64 0, .int .i64 0, .slice none 0 0] 66)).alloc (.cells #[.int .i64 8, .int .i64 m, .int .i64 0, .int .i64 0, .int .i64 0, .slice none 0 0] 66)) w.heap.size #[.int .i64 k, .int .i64 m, .int .i64 a, .int .i64 b, .bool g, .string s, .slice sa sl sc, .slice ao nk cap] 25) := ((Bk.new w _ _).past _).past _
  have HR : Hid (Bk (((w.alloc (.cells #[.int .i64 k, .int .i64 m, .int .i64 a, .int .i64 b, .bool g, .string s, .slice sa sl sc, .slice ao nk cap] 25)).alloc (.cells #[.int .i64 0, .int .i64 0, .int .i64 0, .int .i64 0, .int .i64 0, .slice none 0 0] 66)).alloc (.cells #[.int .i64 8, .int .i64 m, .int .i64 0, .int .i64 0, .int .i64 0, .slice none 0 0] 66)) (w.heap.size + 1) #[.int .i64 0, .int .i64 0, .int .i64 0, .int .i64 0, .int .i64 0, .slice none 0 0] 66) := bk2.past _
  have HI : Hid (Bk (((w.alloc (.cells #[.int .i64 k, .int .i64 m, .int .i64 a, .int .i64 b, .bool g, .string s, .slice sa sl sc, .slice ao nk cap] 25)).alloc (.cells #[.int .i64 0, .int .i64 0, .int .i64 0, .int .i64 0, .int .i64 0, .slice none 0 0] 66)).alloc (.cells #[.int .i64 8, .int .i64 m, .int .i64 0, .int .i64 0, .int .i64 0, .slice none 0 0] 66)) (w.heap.size + 1 + 1) #[.int .i64 8, .int .i64 m, .int .i64 0, .int .i64 0, .int .i64 0, .slice none 0 0] 66) := by
    have := Bk.new ((w.alloc (.cells #[.int .i64 k, .int .i64 m, .int .i64 a, .int .i64 b, .bool g, .string s, .slice sa sl sc, .slice ao nk cap] 25)).alloc (.cells #[.int .i64 0, .int .i64 0, .int .i64 0, .int .i64 0, .int .i64 0, .slice none 0 0] 66)) #[.int .i64 8, .int .i64 m, .int .i64 0, .int .i64 0, .int .i64 0, .slice none 0 0] 66
    simpa [Hid] using this
  have hz : (((w.alloc (.cells #[.int .i64 k, .int .i64 m, .int .i64 a, .int .i64 b, .bool g, .string s, .slice sa sl sc, .slice ao nk cap] 25)).alloc (.cells #[.int .i64 0, .int .i64 0, .int .i64 0, .int .i64 0, .int .i64 0, .slice none 0 0] 66)).alloc (.cells #[.int .i64 8, .int .i64 m, .int .i64 0, .int .i64 0, .int .i64 0, .slice none 0 0] 66)).heap.size = w.heap.size + 1 + 1 + 1 := by simp
  have CL := fun W => looks_any m 0 0 0 none 0 0 W
  obtain ⟨w1, hw1⟩ : ∃ w1, (((w.alloc (.cells #[.int .i64 k, .int .i64 m, .int .i64 a, .int .i64 b, .bool g, .string s, .slice sa sl sc, .slice ao nk cap] 25)).alloc (.cells #[.int .i64 0, .int .i64 0, .int .i64 0, .int .i64 0, .int .i64 0, .slice none 0 0] 66)).alloc (.cells #[.int .i64 8, .int .i64 m, .int .i64 0, .int .i64 0, .int .i64 0, .slice none 0 0] 66)) = w1 := ⟨_, rfl⟩
  have HW1 : Hid ((((w.alloc (.cells #[.int .i64 k, .int .i64 m, .int .i64 a, .int .i64 b, .bool g, .string s, .slice sa sl sc, .slice ao nk cap] 25)).alloc (.cells #[.int .i64 0, .int .i64 0, .int .i64 0, .int .i64 0, .int .i64 0, .slice none 0 0] 66)).alloc (.cells #[.int .i64 8, .int .i64 m, .int .i64 0, .int .i64 0, .int .i64 0, .slice none 0 0] 66)) = w1) := hw1
  rw [hw1] at HBW HNX HR HI hz
  clear hw1
  by_cases hm : m = 2 ∨ m = 3
  · have hbb : (m == 2 || m == 3) = true := by rcases hm with rfl | rfl <;> rfl
    rw [hbb] at CL
    obtain ⟨t, ht⟩ := getX HL.out (show 0 < nk by omega)
    obtain ⟨bb, off, rfl, hka⟩ := (HK.out.below (below_less HBW.out hBw)).some (by have := HL.out; omega)
    have hlk : lkW m ks = ofN t := by
      unfold lkW; rw [if_pos hm]
      cases ks with
      | nil => simp at ht
      | cons x l => simp at ht; subst ht; rfl
    rw [hlk]
    have hts : t.sz ≤ 100000000 := by have := szL_mem (List.mem_of_getElem? ht); omega
    obtain ⟨k', m', a', b', g', n', s', kk, sa', sc', ao', cap', rfl, ⟨e0, e1, e2, e3, e4, e5, e6, e7⟩, hv'⟩ := hka.kid ht
    simp only [Nat.zero_mul, Nat.add_zero] at e0 e1 e2 e3 e4 e5 e6 e7
    obtain ⟨o1, o2, o3, o4⟩ := wid.of_ok (.mk k' m' a' b' g' n' s' kk)
    obtain ⟨x1, hx1⟩ : ∃ x1, (ofN (.mk k' m' a' b' g' n' s' kk)).1 = x1 := ⟨_, rfl⟩
    obtain ⟨x2, hx2⟩ : ∃ x2, (ofN (.mk k' m' a' b' g' n' s' kk)).2 = x2 := ⟨_, rfl⟩
    rw [hx1] at o1 o2
    rw [hx2] at o3 o4
    rw [hx1, hx2]
    have HOF : Hid (∀ W, Below w1.heap.size w1 W → Calls Tryz.prog 102 #[.agg #[.int .i64 k', .int .i64 m', .int .i64 a', .int .i64 b', .bool g', .string n', .slice sa' s'.length sc', .slice ao' kk.length cap']] W fun e w' => e = .returned (.tuple #[.int .i64 x1, .int .i64 x2]) ∧ Below W.heap.size W w') := fun W h => by
      have := wid.of_any _ _ W ((hv'.keep (below_less h (by omega))).wide (by have := h.size; omega)) hts
      rw [hx1, hx2] at this; exact this
    generalize s'.length = sl' at *
    generalize kk.length = nk' at *
    have EE : Hid (∀ W, Below w1.heap.size w1 W → W.cell? ⟨bb, off, none⟩ = some (.int .i64 k') ∧ W.cell? ⟨bb, off + 1, none⟩ = some (.int .i64 m') ∧ W.cell? ⟨bb, off + 2, none⟩ = some (.int .i64 a') ∧ W.cell? ⟨bb, off + 3, none⟩ = some (.int .i64 b') ∧ W.cell? ⟨bb, off + 4, none⟩ = some (.bool g') ∧ W.cell? ⟨bb, off + 5, none⟩ = some (.string n') ∧ W.cell? ⟨bb, off + 6, none⟩ = some (.slice sa' sl' sc') ∧ W.cell? ⟨bb, off + 7, none⟩ = some (.slice ao' nk' cap')) := fun W h => by
      have q : ∀ i u, w1.cell? ⟨bb, i, none⟩ = some u → W.cell? ⟨bb, i, none⟩ = some u := fun i u hu => (h.cell (World.block_lt_of_cell? w1 _ hu)).trans hu
      exact ⟨q _ _ e0, q _ _ e1, q _ _ e2, q _ _ e3, q _ _ e4, q _ _ e5, q _ _ e6, q _ _ e7⟩
    clear hbb hlk hm HK HL hka ht hv' e0 e1 e2 e3 e4 e5 e6 e7 hx1 hx2 hts
    go_enter Tryz.func96, Tryz.ntmps96
    go_wp2_with (first
      | (go_at_call 101; refine (CL _).mono ?_; rintro e w2 ⟨rfl, b2⟩; rw [HW1.out] at b2; have B2 : Hid (Below w1.heap.size w1 w2) := b2; obtain ⟨e0, e1, e2, e3, e4, e5, e6, e7⟩ := EE.out w2 b2; have n7 := (HNX.out.on b2).cell 7 (u := .slice (some ⟨bb, off, none⟩) nk cap) rfl; have CO := HOF.out w2 b2; clear b2 CL)
      | (go_at_call 102; refine CO.mono ?_; rintro e w3 ⟨rfl, b3⟩; have b3' : Below w1.heap.size w1 w3 := B2.out.trans (below_less b3 B2.out.size); have B3 : Hid (Below w1.heap.size w1 w3) := b3'; have HI2 := HI.out.on b3'; have j0 := HI2.cell 0 (u := .int .i64 8) rfl; have j1 := HI2.cell 1 (u := .int .i64 m) rfl; have j2 := HI2.cell 2 (u := .int .i64 0) rfl; have j3 := HI2.cell 3 (u := .int .i64 0) rfl; have j4 := HI2.cell 4 (u := .int .i64 0) rfl; have j5 := HI2.cell 5 (u := .slice none 0 0) rfl; have HII := HI2; have f3 := HI2.frozen 3; have f4 := HI2.frozen 4; have HR2 : Hid (Bk w3 (w.heap.size + 1) #[.int .i64 0, .int .i64 0, .int .i64 0, .int .i64 0, .int .i64 0, .slice none 0 0] 66) := HR.out.on b3'; have HRR := HR2.out; have r0 := HRR.cell 0 (u := .int .i64 0) rfl; have r1 := HRR.cell 1 (u := .int .i64 0) rfl; have r2 := HRR.cell 2 (u := .int .i64 0) rfl; have r3 := HRR.cell 3 (u := .int .i64 0) rfl; have r4 := HRR.cell 4 (u := .int .i64 0) rfl; have r5 := HRR.cell 5 (u := .slice none 0 0) rfl; have g0 := HRR.frozen 0; have g1 := HRR.frozen 1; have g2 := HRR.frozen 2; have g3 := HRR.frozen 3; have g4 := HRR.frozen 4; have g5 := HRR.frozen 5; clear b3 b3' HI2 HRR CO))
    refine bodyPost_ret (results_cell_row Tryz.results96 _ _ (w.heap.size + 1) _ #[.int .i64 8, .int .i64 m, .int .i64 0, .int .i64 x1, .int .i64 x2, .slice none 0 0] _ _ rfl (bk_set6 ((HR2.out.apart (by omega) _).apart (by omega) _) _ _ _ _ _ _) Tryz.underlying66 rfl inf6) rfl ?_
    exact ⟨rfl, below_set6 (((HBW.out.trans (below_less B3.out (by omega))).setCell (p := ⟨w.heap.size + 1 + 1, 3, none⟩) (by simp; omega) _).setCell (p := ⟨w.heap.size + 1 + 1, 4, none⟩) (by simp; omega) _) (by omega) _ _ _ _ _ _⟩
  · have hbb : (m == 2 || m == 3) = false := by simpa using hm
    rw [hbb] at CL
    have hlk : lkW m ks = (0, 0) := by unfold lkW; rw [if_neg hm]
    rw [hlk]
    simp only
    clear hbb hlk hm HK HL
    go_enter Tryz.func96, Tryz.ntmps96
    go_wp2_with (go_at_call 101; refine (CL _).mono ?_; rintro e w2 ⟨rfl, b2⟩; rw [HW1.out] at b2; have B2 : Hid (Below w1.heap.size w1 w2) := b2; have HI2 := HI.out.on b2; have j0 := HI2.cell 0 (u := .int .i64 8) rfl; have j1 := HI2.cell 1 (u := .int .i64 m) rfl; have j2 := HI2.cell 2 (u := .int .i64 0) rfl; have j3 := HI2.cell 3 (u := .int .i64 0) rfl; have j4 := HI2.cell 4 (u := .int .i64 0) rfl; have j5 := HI2.cell 5 (u := .slice none 0 0) rfl; have HR2 : Hid (Bk w2 (w.heap.size + 1) #[.int .i64 0, .int .i64 0, .int .i64 0, .int .i64 0, .int .i64 0, .slice none 0 0] 66) := HR.out.on b2; have HRR := HR2.out; have r0 := HRR.cell 0 (u := .int .i64 0) rfl; have r1 := HRR.cell 1 (u := .int .i64 0) rfl; have r2 := HRR.cell 2 (u := .int .i64 0) rfl; have r3 := HRR.cell 3 (u := .int .i64 0) rfl; have r4 := HRR.cell 4 (u := .int .i64 0) rfl; have r5 := HRR.cell 5 (u := .slice none 0 0) rfl; have g0 := HRR.frozen 0; have g1 := HRR.frozen 1; have g2 := HRR.frozen 2; have g3 := HRR.frozen 3; have g4 := HRR.frozen 4; have g5 := HRR.frozen 5; clear b2 HI2 HRR CL)
    refine bodyPost_ret (results_cell_row Tryz.results96 _ _ (w.heap.size + 1) _ #[.int .i64 8, .int .i64 m, .int .i64 0, .int .i64 0, .int .i64 0, .slice none 0 0] _ _ rfl (bk_set6 HR2.out _ _ _ _ _ _) Tryz.underlying66 rfl inf6) rfl ?_
    exact ⟨rfl, below_set6 (HBW.out.trans (below_less B2.out (by omega))) (by omega) _ _ _ _ _ _⟩
end Go.Proofs.YtjbcapnpknbbaaaGreat.cmp
end
