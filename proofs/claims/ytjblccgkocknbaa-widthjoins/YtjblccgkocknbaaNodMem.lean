/- Trees of nodes in memory, as they are read. -/
import Derived.Test.YtjblccgkocknbaaRngMem
set_option linter.unusedVariables false
set_option linter.unusedSimpArgs false
namespace Go.Proofs.Ytjblccgkocknbaa.nod
open Go.RowKit
open Go.Proofs.Ytjblccgkocknbaa.rng (R RV ret_int ret_bool below_drewN info_parts own_below')

/-- A node of a pattern's tree. -/
inductive Nd where
  | mk (kind mode a b : Int) (neg : Bool) (name : ByteArray) (set : List R) (kids : List Nd)

def Nd.kind : Nd → Int | .mk k _ _ _ _ _ _ _ => k
def Nd.mode : Nd → Int | .mk _ m _ _ _ _ _ _ => m
def Nd.a : Nd → Int | .mk _ _ a _ _ _ _ _ => a
def Nd.b : Nd → Int | .mk _ _ _ b _ _ _ _ => b
def Nd.neg : Nd → Bool | .mk _ _ _ _ g _ _ _ => g
def Nd.name : Nd → ByteArray | .mk _ _ _ _ _ n _ _ => n
def Nd.set : Nd → List R | .mk _ _ _ _ _ _ s _ => s
def Nd.kids : Nd → List Nd | .mk _ _ _ _ _ _ _ ks => ks
instance : Inhabited Nd := ⟨.mk 0 0 0 0 false ByteArray.empty [] []⟩
mutual
/-- How many nodes. -/
def Nd.sz : Nd → Nat
  | .mk _ _ _ _ _ _ _ ks => szL ks + 1
def szL : List Nd → Nat
  | [] => 0
  | t :: ts => t.sz + szL ts
end
theorem szL_mem {t : Nd} : ∀ {ks : List Nd}, t ∈ ks → t.sz ≤ szL ks
  | [], h => by cases h
  | x :: ks, h => by
    rw [szL]
    rcases List.mem_cons.1 h with rfl | h
    · omega
    · have := szL_mem h; omega
theorem kid_lt {t : Nd} {k m a b : Int} {g : Bool} {n : ByteArray} {s : List R} {ks : List Nd} (h : t ∈ ks) : t.sz < (Nd.mk k m a b g n s ks).sz := by
  have := szL_mem h
  rw [Nd.sz.eq_def (Nd.mk k m a b g n s ks)]
  simp only
  omega
theorem kid_lt' {t : Nd} {k m a b : Int} {g : Bool} {n : ByteArray} {s : List R} {ks : List Nd} {i : Nat} (h : ks[i]? = some t) : t.sz < (Nd.mk k m a b g n s ks).sz := kid_lt (List.mem_of_getElem? h)

/-- What fits an int. -/
def I64 (x : Int) : Prop := -9223372036854775808 ≤ x ∧ x ≤ 9223372036854775807

/-- Eight cells make the value v. -/
def At8 (w : World) (b off : Nat) (v : Value) : Prop := ∃ c0 c1 c2 c3 c4 c5 c6 c7, v = .agg #[c0, c1, c2, c3, c4, c5, c6, c7] ∧ w.cell? ⟨b, off, none⟩ = some c0 ∧ w.cell? ⟨b, off + 1, none⟩ = some c1 ∧ w.cell? ⟨b, off + 2, none⟩ = some c2 ∧ w.cell? ⟨b, off + 3, none⟩ = some c3 ∧
  w.cell? ⟨b, off + 4, none⟩ = some c4 ∧ w.cell? ⟨b, off + 5, none⟩ = some c5 ∧ w.cell? ⟨b, off + 6, none⟩ = some c6 ∧ w.cell? ⟨b, off + 7, none⟩ = some c7

/-- The value v reads as the node t, in blocks below B. -/
inductive NV (B : Nat) (w : World) : Nd → Value → Prop
  | mk (k m a b : Int) (g : Bool) (n : ByteArray) (s : List R) (ks : List Nd) (sa : Option Addr) (sc : Nat) (ao : Option Addr) (cap : Nat) (F : Nat → Value)
    (hi : I64 k ∧ I64 m ∧ I64 a ∧ I64 b) (hn : n.size ≤ maxLen)
    (hs : RV w sa s) (hsB : ∀ x, sa = some x → s ≠ [] → x.block < B) (hsc : s.length ≤ sc ∧ sc ≤ maxLen ∧ (sa = none → sc = 0))
    (hkc : ks.length ≤ cap ∧ cap ≤ maxLen ∧ (ao = none → cap = 0))
    (hc : ks = [] ∨ ∃ bb off, ao = some ⟨bb, off, none⟩ ∧ bb < B ∧ ∀ i, i < ks.length → At8 w bb (off + i * 8) (F i))
    (hF : ∀ (i : Nat) t, ks[i]? = some t → NV B w t (F i)) :
    NV B w (.mk k m a b g n s ks) (.agg #[.int .i64 k, .int .i64 m, .int .i64 a, .int .i64 b, .bool g, .string n, .slice sa s.length sc, .slice ao ks.length cap])

theorem At8.below {B : Nat} {w w' : World} {b off : Nat} {v : Value} (h : At8 w b off v) (hb : Below B w w') (hB : b < B) : At8 w' b off v := by
  obtain ⟨c0, c1, c2, c3, c4, c5, c6, c7, rfl, h0, h1, h2, h3, h4, h5, h6, h7⟩ := h
  have e : ∀ (i : Nat) x, w.cell? ⟨b, i, none⟩ = some x → w'.cell? ⟨b, i, none⟩ = some x := fun i x hx => (hb.cell (p := ⟨b, i, none⟩) hB).trans hx
  exact ⟨c0, c1, c2, c3, c4, c5, c6, c7, rfl, e _ _ h0, e _ _ h1, e _ _ h2, e _ _ h3, e _ _ h4, e _ _ h5, e _ _ h6, e _ _ h7⟩
theorem rv_below {B : Nat} {w w' : World} {sa : Option Addr} {s : List R} (h : RV w sa s) (hB : ∀ x, sa = some x → s ≠ [] → x.block < B) (hb : Below B w w') : RV w' sa s := by
  rcases h with h | ⟨b, off, rfl, h⟩
  · exact .inl h
  · rcases s with _ | ⟨p, s⟩
    · exact .inl rfl
    · have hlt : b < B := hB _ rfl (by simp)
      refine .inr ⟨b, off, rfl, fun i p hi => ?_⟩
      obtain ⟨h1, h2⟩ := h i p hi
      exact ⟨(hb.cell (p := ⟨b, _, none⟩) hlt).trans h1, (hb.cell (p := ⟨b, _, none⟩) hlt).trans h2⟩
theorem NV.keep {B : Nat} {w w' : World} {t : Nd} {v : Value} (h : NV B w t v) (hb : Below B w w') : NV B w' t v := by
  induction h with
  | mk k m a b g n s ks sa sc ao cap F hi hn hs hsB hsc hkc hc hF ih =>
    refine .mk k m a b g n s ks sa sc ao cap F hi hn (rv_below hs hsB hb) hsB hsc hkc ?_ ih
    rcases hc with h | ⟨bb, off, e, hlt, hx⟩
    · exact .inl h
    · exact .inr ⟨bb, off, e, hlt, fun i hi => (hx i hi).below hb hlt⟩
theorem NV.wide {B B' : Nat} {w : World} {t : Nd} {v : Value} (h : NV B w t v) (hb : B ≤ B') : NV B' w t v := by
  induction h with
  | mk k m a b g n s ks sa sc ao cap F hi hn hs hsB hsc hkc hc hF ih =>
    refine .mk k m a b g n s ks sa sc ao cap F hi hn hs (fun x e h => Nat.lt_of_lt_of_le (hsB x e h) hb) hsc hkc ?_ ih
    rcases hc with h | ⟨bb, off, e, hlt, hx⟩
    · exact .inl h
    · exact .inr ⟨bb, off, e, Nat.lt_of_lt_of_le hlt hb, hx⟩
/-- Behind a call that changed nothing below its beginning. -/
theorem NV.on {B : Nat} {w w' : World} {t : Nd} {v : Value} (h : NV B w t v) (hb : Below w.heap.size w w') (hB : B ≤ w.heap.size) : NV B w' t v :=
  h.keep ⟨hb.os, hb.tape, hb.output, hb.size, fun k hk => hb.block k (Nat.lt_of_lt_of_le hk hB)⟩

/-- The nodes ks lie one behind the other in block b, from cell off on. -/
def KAt (B : Nat) (w : World) (b off : Nat) (ks : List Nd) : Prop := b < B ∧ ∀ (i : Nat) t, ks[i]? = some t → ∃ v, At8 w b (off + i * 8) v ∧ NV B w t v
/-- The nodes ks can be read from the address on. -/
def KV (B : Nat) (w : World) (ao : Option Addr) (ks : List Nd) : Prop := ks = [] ∨ ∃ b off, ao = some ⟨b, off, none⟩ ∧ KAt B w b off ks
theorem KAt.below {B : Nat} {w w' : World} {b off : Nat} {ks : List Nd} (h : KAt B w b off ks) (hb : Below B w w') : KAt B w' b off ks :=
  ⟨h.1, fun i t hi => by obtain ⟨v, h1, h2⟩ := h.2 i t hi; exact ⟨v, h1.below hb h.1, h2.keep hb⟩⟩
theorem KV.below {B : Nat} {w w' : World} {ao : Option Addr} {ks : List Nd} (h : KV B w ao ks) (hb : Below B w w') : KV B w' ao ks := by
  rcases h with h | ⟨b, off, e, h⟩
  · exact .inl h
  · exact .inr ⟨b, off, e, h.below hb⟩
theorem KV.some {B : Nat} {w : World} {ao : Option Addr} {ks : List Nd} (h : KV B w ao ks) (h0 : 0 < ks.length) : ∃ b off, ao = some ⟨b, off, none⟩ ∧ KAt B w b off ks := by
  rcases h with rfl | h
  · simp at h0
  · exact h
theorem KV.wide {B B' : Nat} {w : World} {ao : Option Addr} {ks : List Nd} (h : KV B w ao ks) (hb : B ≤ B') : KV B' w ao ks := by
  rcases h with h | ⟨b, off, e, h⟩
  · exact .inl h
  · exact .inr ⟨b, off, e, Nat.lt_of_lt_of_le h.1 hb, fun i t hi => by obtain ⟨v, h1, h2⟩ := h.2 i t hi; exact ⟨v, h1, h2.wide hb⟩⟩

/-- A node's value, opened. -/
theorem NV.open {B : Nat} {w : World} {t : Nd} {v : Value} (h : NV B w t v) : ∃ k m a b g n s ks sa sc ao cap, t = .mk k m a b g n s ks ∧ v = .agg #[.int .i64 k, .int .i64 m, .int .i64 a, .int .i64 b, .bool g, .string n, .slice sa s.length sc, .slice ao ks.length cap] ∧
    (I64 k ∧ I64 m ∧ I64 a ∧ I64 b) ∧ n.size ≤ maxLen ∧ (RV w sa s ∧ (∀ x, sa = some x → s ≠ [] → x.block < B) ∧ s.length ≤ sc ∧ sc ≤ maxLen ∧ (sa = none → sc = 0)) ∧ ks.length ≤ cap ∧ cap ≤ maxLen ∧ (ao = none → cap = 0) ∧ KV B w ao ks := by
  cases h with
  | mk k m a b g n s ks sa sc ao cap F hi hn hs hsB hsc hkc hc hF =>
    refine ⟨k, m, a, b, g, n, s, ks, sa, sc, ao, cap, rfl, rfl, hi, hn, ⟨hs, hsB, hsc⟩, hkc.1, hkc.2.1, hkc.2.2, ?_⟩
    rcases hc with h | ⟨bb, off, e, hlt, hx⟩
    · exact .inl h
    · exact .inr ⟨bb, off, e, hlt, fun i t hi => ⟨F i, hx i (List.getElem?_eq_some_iff.1 hi).1, hF i t hi⟩⟩
theorem NV.shut {B : Nat} {w : World} {k m a b : Int} {g : Bool} {n : ByteArray} {s : List R} {ks : List Nd} {sa : Option Addr} {sc : Nat} {ao : Option Addr} {cap : Nat}
    (hi : I64 k ∧ I64 m ∧ I64 a ∧ I64 b) (hn : n.size ≤ maxLen) (hs : RV w sa s ∧ (∀ x, sa = some x → s ≠ [] → x.block < B) ∧ s.length ≤ sc ∧ sc ≤ maxLen ∧ (sa = none → sc = 0)) (hkc : ks.length ≤ cap ∧ cap ≤ maxLen ∧ (ao = none → cap = 0)) (hk : KV B w ao ks) :
    NV B w (.mk k m a b g n s ks) (.agg #[.int .i64 k, .int .i64 m, .int .i64 a, .int .i64 b, .bool g, .string n, .slice sa s.length sc, .slice ao ks.length cap]) := by
  classical
  rcases hk with rfl | ⟨bb, off, e, hlt, hx⟩
  · exact .mk k m a b g n s [] sa sc ao cap (fun _ => .bool false) hi hn hs.1 hs.2.1 hs.2.2 hkc (.inl rfl) (fun i t h => by simp at h)
  · have each : ∀ i : Nat, ∃ v, ∀ t, ks[i]? = some t → At8 w bb (off + i * 8) v ∧ NV B w t v := fun i => by
      cases h : ks[i]? with
      | none => exact ⟨.bool false, fun t e => by cases e⟩
      | some t => obtain ⟨v, h1, h2⟩ := hx i t h; exact ⟨v, fun t' e => by cases e; exact ⟨h1, h2⟩⟩
    refine .mk k m a b g n s ks sa sc ao cap (fun i => Classical.choose (each i)) hi hn hs.1 hs.2.1 hs.2.2 hkc (.inr ⟨bb, off, e, hlt, fun i hi => ?_⟩) (fun i t h => (Classical.choose_spec (each i) t h).2)
    exact (Classical.choose_spec (each i) _ (List.getElem?_eq_getElem hi)).1

theorem getX {α : Type} {l : List α} {n k : Nat} (h : l.length = n) (hk : k < n) : ∃ x, l[k]? = some x := by subst h; exact ⟨_, List.getElem?_eq_getElem hk⟩
theorem dropX {α : Type} {l : List α} {k : Nat} {x : α} (h : l[k]? = some x) : l.drop k = x :: l.drop (k + 1) := by
  obtain ⟨hk, e⟩ := List.getElem?_eq_some_iff.1 h
  rw [List.drop_eq_getElem_cons hk, e]
theorem takeX {α : Type} {l : List α} {k : Nat} {x : α} (h : l[k]? = some x) : l.take (k + 1) = l.take k ++ [x] := by
  obtain ⟨hk, e⟩ := List.getElem?_eq_some_iff.1 h
  rw [List.take_succ_eq_append_getElem hk, e]

/-- Kid number i of a row: its cells, as a walk reads them, and its value. -/
theorem KAt.kid {B : Nat} {w : World} {b off i : Nat} {ks : List Nd} {t : Nd} (h : KAt B w b off ks) (hi : ks[i]? = some t) : ∃ k m a b' g n s kk sa sc ao cap, t = .mk k m a b' g n s kk ∧
    (w.cell? ⟨b, off + i * 8, none⟩ = some (.int .i64 k) ∧ w.cell? ⟨b, off + i * 8 + 1, none⟩ = some (.int .i64 m) ∧ w.cell? ⟨b, off + i * 8 + 2, none⟩ = some (.int .i64 a) ∧ w.cell? ⟨b, off + i * 8 + 3, none⟩ = some (.int .i64 b') ∧
      w.cell? ⟨b, off + i * 8 + 4, none⟩ = some (.bool g) ∧ w.cell? ⟨b, off + i * 8 + 5, none⟩ = some (.string n) ∧ w.cell? ⟨b, off + i * 8 + 6, none⟩ = some (.slice sa s.length sc) ∧ w.cell? ⟨b, off + i * 8 + 7, none⟩ = some (.slice ao kk.length cap)) ∧
    NV B w t (.agg #[.int .i64 k, .int .i64 m, .int .i64 a, .int .i64 b', .bool g, .string n, .slice sa s.length sc, .slice ao kk.length cap]) := by
  obtain ⟨v, h1, h2⟩ := h.2 i t hi
  obtain ⟨k, m, a, b', g, n, s, kk, sa, sc, ao, cap, rfl, rfl, _⟩ := h2.open
  obtain ⟨c0, c1, c2, c3, c4, c5, c6, c7, e, g0, g1, g2, g3, g4, g5, g6, g7⟩ := h1
  simp only [Value.agg.injEq, Array.mk.injEq, List.cons.injEq, and_true] at e
  obtain ⟨rfl, rfl, rfl, rfl, rfl, rfl, rfl, rfl⟩ := e
  exact ⟨k, m, a, b', g, n, s, kk, sa, sc, ao, cap, rfl, ⟨g0, g1, g2, g3, g4, g5, g6, g7⟩, h2⟩
end Go.Proofs.Ytjblccgkocknbaa.nod
