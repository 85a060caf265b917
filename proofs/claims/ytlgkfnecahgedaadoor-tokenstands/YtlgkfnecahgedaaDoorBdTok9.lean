/- Texts that the proof leans on, one behind the other. -/
import Derived.Test.YtlgkfnecahgedaaDoorBdTok7
import Derived.Test.YtlgkfnecahgedaaDoorBdTok8

section
/- Tokens stand one behind the other; a fault stands behind them. Plain mathematics. -/
set_option linter.unusedVariables false
set_option linter.unusedSimpArgs false
namespace Go.Proofs.YtlgkfnecahgedaaDoor.tok
open utf (it len it_end)

/-- Tokens that stand one behind the other, from a to b. -/
def Chain : Nat → List Tk → Nat → Prop
  | a, [], b => a = b
  | a, t :: l, b => t.s = a ∧ a < t.e ∧ 1 ≤ t.kind ∧ t.kind ≤ 14 ∧ Chain t.e l b
theorem Chain.le : ∀ {a : Nat} {l : List Tk} {b : Nat}, Chain a l b → a ≤ b
  | a, [], b, h => Nat.le_of_eq h
  | a, t :: l, b, h => Nat.le_trans (Nat.le_of_lt h.2.1) (Chain.le h.2.2.2.2)
/-- Where tokens end. -/
def endT : Nat → List Tk → Nat
  | a, [] => a
  | _, t :: l => endT t.e l
theorem Chain.end_ : ∀ {a : Nat} {l : List Tk} {b : Nat}, Chain a l b → endT a l = b
  | a, [], b, h => h
  | a, t :: l, b, h => by show endT t.e l = b; exact Chain.end_ h.2.2.2.2

section
variable (f : Nat → Int) (n : Nat)
theorem scanR_chain : ∀ m a k, n ≤ a + m → a ≤ n → ∃ b, Chain a (scanR f n m a k).1 b ∧ b ≤ n ∧ ((scanR f n m a k).2.1 = 0 → b = n) ∧ ((scanR f n m a k).2.1 ≠ 0 → b ≤ (scanR f n m a k).2.2 ∧ (scanR f n m a k).2.2 ≤ n) := by
  intro m
  induction m with
  | zero => intro a k h ha; exact ⟨a, rfl, ha, fun _ => by omega, fun h => absurd rfl h⟩
  | succ m ih =>
    intro a k h ha
    simp only [scanR]
    by_cases hl : a < n
    · rw [if_pos hl]
      cases ho : token f n a k with
      | no c p =>
        have h1 := token_in f n a k ha
        rw [ho] at h1
        exact ⟨a, rfl, ha, fun e => absurd e h1.1, fun _ => h1.2⟩
      | ok t a' =>
        have hv := token_val f n ho ha
        obtain ⟨b, h1, h2, h3, h4⟩ := ih a' t.2 (by omega) hv.2.1
        exact ⟨b, ⟨rfl, hv.1, hv.2.2.2.1, hv.2.2.2.2, h1⟩, h2, h3, h4⟩
    · rw [if_neg hl]
      exact ⟨a, rfl, ha, fun _ => by omega, fun h => absurd rfl h⟩
theorem scanL_chain : ∃ b, Chain 0 (scanL f n).1 b ∧ b ≤ n ∧ ((scanL f n).2.1 = 0 → b = n) ∧ ((scanL f n).2.1 ≠ 0 → b ≤ (scanL f n).2.2 ∧ (scanL f n).2.2 ≤ n) := by
  unfold scanL
  split
  · exact scanR_chain f n n 0 0 (by omega) (Nat.zero_le _)
  · exact ⟨0, rfl, Nat.zero_le _, fun h => by simp at h, fun _ => ⟨Nat.zero_le _, by show 2000 ≤ n; omega⟩⟩
theorem Chain.len : ∀ {a : Nat} {l : List Tk} {b : Nat}, Chain a l b → a + l.length ≤ b
  | a, [], b, h => Nat.le_of_eq h
  | a, t :: l, b, h => by have := Chain.len h.2.2.2.2; have := h.2.1; simp only [List.length_cons]; omega
theorem Chain.ends : ∀ {a : Nat} {l : List Tk} {b : Nat}, Chain a l b → ∀ t ∈ l, a ≤ t.s ∧ t.e ≤ b ∧ t.s < t.e
  | a, [], b, h => by simp
  | a, t :: l, b, h => by
    intro x hx
    have hle := Chain.le h.2.2.2.2
    have h1 := h.1
    have h2 := h.2.1
    rcases List.mem_cons.1 hx with rfl | hx
    · omega
    · have := Chain.ends h.2.2.2.2 x hx
      omega
theorem Chain.drop : ∀ {a : Nat} {l : List Tk} {b : Nat}, Chain a l b → ∀ i t, l[i]? = some t → endT a (l.take i) = t.s
  | a, [], b, h, i, t, e => by simp at e
  | a, x :: l, b, h, 0, t, e => by simp at e; subst e; exact h.1.symm
  | a, x :: l, b, h, i + 1, t, e => by simp at e; simp only [List.take_succ_cons, endT]; exact Chain.drop h.2.2.2.2 i t e
theorem endT_snoc : ∀ (a : Nat) (l : List Tk) (i : Nat) (t : Tk), l[i]? = some t → endT a (l.take (i + 1)) = t.e
  | a, [], i, t, e => by simp at e
  | a, x :: l, 0, t, e => by simp at e; subst e; simp [endT]
  | a, x :: l, i + 1, t, e => by simp at e; simp only [List.take_succ_cons, endT]; exact endT_snoc _ l i t e
theorem Chain.kind : ∀ {a : Nat} {l : List Tk} {b : Nat}, Chain a l b → ∀ t ∈ l, 1 ≤ t.kind ∧ t.kind ≤ 14
  | a, [], b, h => by simp
  | a, t :: l, b, h => by
    intro x hx
    rcases List.mem_cons.1 hx with rfl | hx
    · exact ⟨h.2.2.1, h.2.2.2.1⟩
    · exact Chain.kind h.2.2.2.2 x hx
end
end Go.Proofs.YtlgkfnecahgedaaDoor.tok
end

section
/- TokenStands: the walk. -/
set_option linter.unusedVariables false
set_option linter.unusedSimpArgs false
namespace Go.Proofs.YtlgkfnecahgedaaDoor.tok
open Go.RowKit
open lin (BA Turns)

theorem TkAt.deep {w : World} {b off : Nat} {t : Tk} (h : TkAt w b off t) : w.cell? ⟨b, off + 1 + 1, none⟩ = some (.int .i64 t.a) ∧ w.cell? ⟨b, off + 1 + 1 + 1, none⟩ = some (.int .i64 t.b) ∧ w.cell? ⟨b, off + 1 + 1 + 1 + 1, none⟩ = some (.string (BA t.name)) ∧ w.cell? ⟨b, off + 1 + 1 + 1 + 1 + 1, none⟩ = some (.bool t.neg) ∧ w.cell? ⟨b, off + 1 + 1 + 1 + 1 + 1 + 1, none⟩ = some (.int .i64 t.s) ∧ w.cell? ⟨b, off + 1 + 1 + 1 + 1 + 1 + 1 + 1, none⟩ = some (.int .i64 t.e) := ⟨h.c2, h.c3, h.c4, h.c5, h.c6, h.c7⟩
set_option maxHeartbeats 4000000 in
set_option maxRecDepth 100000 in
theorem stands_walk (ao : Option Addr) (n cap : Nat) (f : Nat → Int) (w : World) (hB : utf.IsB w ao n f) (hm : utf.Marks w) (hf : ∀ i, 0 ≤ f i ∧ f i ≤ 255) (hc : n ≤ cap) (hcm : cap ≤ 9223372036854775807) :
    Calls Tryd.prog 3 #[.slice ao n cap] w fun e w' => e = .returned (.bool true) ∧ Below w.heap.size w w' := by
  have C := scan_any ao n cap f w hB hm hf hc hcm
  obtain ⟨b, h1, h2, h3, h4⟩ := scanL_chain f n
  obtain ⟨⟨L, q, p⟩, hL⟩ : ∃ Q, scanL f n = Q := ⟨_, rfl⟩
  rw [hL] at C h1 h3 h4
  simp only [] at C h1 h3 h4
  have HM : Hid (utf.Marks w) := hm
  have HCH : Hid (Chain 0 L b) := h1
  have hlen : L.length ≤ b := by have := Chain.len h1; omega
  have HEN : Hid (endT 0 L = b) := Chain.end_ h1
  have HQ0 : Hid (q = 0 → b = n) := h3
  have HQ1 : Hid (q ≠ 0 → b ≤ p ∧ p ≤ n) := h4
  clear hL h1 h3 h4 hB hm hf
  go_enter Tryd.func3, Tryd.ntmps3
  go_wp2_with fail
  refine C.mono ?_
  rintro e w1 ⟨tv, rfl, O1, B1⟩
  clear C
  obtain ⟨ta, tc, rfl, htc, hv⟩ := tok_view O1
  have HV : Hid (0 < L.length → ∃ g, ta = some ⟨g, 0, none⟩ ∧ w.heap.size ≤ g ∧ g < w1.heap.size ∧ ∀ i t, L[i]? = some t → TkAt w1 g (i * 8) t) := hv
  have HB1 : Hid (Below w.heap.size w w1) := B1
  have hs1 := B1.size
  clear O1 B1 hv
  obtain ⟨W, hW⟩ : ∃ W, w1.alloc (.cells #[.int .i64 q, .int .i64 (p : Int)] 26) = W := ⟨_, rfl⟩
  have HBW : Hid (Below w1.heap.size w1 W) := by rw [Hid, ← hW]; exact (Below.refl _ _).alloc (Nat.le_refl _) _
  have HGW : Hid (W.heap[w1.heap.size]? = some (.cells #[.int .i64 q, .int .i64 (p : Int)] 26 (0, 0))) := by rw [Hid, ← hW]; exact World.alloc_heap_new _ _
  have hsW : W.heap.size = w1.heap.size + 1 := by rw [← hW]; simp
  go_wp2
  clear hW
  go_loopw [5, 15] (fun at_ i wr => ∃ k : Nat, k ≤ L.length ∧ i = .int .i64 k ∧ at_ = .int .i64 (endT 0 (L.take k)) ∧ Hid (Below W.heap.size W wr))
    (fun _ i _ => L.length - (intOf i).toNat)
  case atStart => exact ⟨0, Nat.zero_le _, rfl, by simp [endT], Below.refl _ _⟩
  case round =>
    obtain ⟨k, hk, rfl, rfl, HB⟩ := hrel
    by_cases hkl : k < L.length
    · obtain ⟨g, hta, hg1, hg2, hat⟩ := HV.out (by omega)
      obtain ⟨t, ht⟩ : ∃ t, L[k]? = some t := ⟨L[k], by simp [hkl]⟩
      have hd := Chain.drop HCH.out k t ht
      have hen := endT_snoc 0 L k t ht
      have hin := Chain.ends HCH.out t (List.mem_of_getElem? ht)
      have hkd := Chain.kind HCH.out t (List.mem_of_getElem? ht)
      have A0 := ((hat k t ht).below HBW.out).below HB.out
      have hbs := HB.out.size
      have hne : ¬ g = wr.heap.size := by omega
      have hkl' : (k : Int) < (L.length : Int) := by omega
      have HEN2 : Hid (endT 0 (L.take (k + 1)) = t.e) := hen
      rw [hd]
      subst hta
      clear hat ht hd hen
      obtain ⟨kd, md, ta, tb, nm, ng, ts, te⟩ := t
      simp only [] at hin hkd HEN2 ⊢
      obtain ⟨x0, x1, x2, x3, x4, x5, x6, x7⟩ := A0
      simp only [] at x0 x1 x2 x3 x4 x5 x6 x7
      have i1 : (ts : Int) < (te : Int) := by omega
      have i2 : ¬ (te : Int) ≤ (ts : Int) := by omega
      have i3 : ¬ kd < 1 := by omega
      have i4 : ¬ 14 < kd := by omega
      have i5 : b ≤ n := h2
      have wk : IntKind.i64.wrap ((k : Int) + 1) = (k : Int) + 1 := by rw [IntKind.wrap_i64]; omega
      obtain ⟨hin1, hin2, hin3⟩ := hin
      clear hkd
      go_wp2
      refine ⟨⟨k + 1, by omega, by simp, by rw [HEN2.out], ?_⟩, by (first | simp [intOf] | simp [Go.RowKit.intOf]); omega⟩
      have := HB.out
      (repeat' first | exact this | refine below_drewN ?_ _ | refine Below.setCell ?_ (by have := this.size; simp; omega) _ | refine Below.alloc ?_ (by have := this.size; simp; omega) _)
    · obtain rfl : k = L.length := by omega
      have hend : endT 0 (L.take L.length) = b := by rw [List.take_length]; exact HEN.out
      rw [hend]
      have HBF : Hid (Below w.heap.size w wr) := HB1.out.trans ((HBW.out.mono (by omega)).trans (HB.out.mono (by omega)))
      have hbs := HB.out.size
      have GR := (HB.out.block w1.heap.size (by omega)).trans HGW.out
      obtain ⟨g0, g1, -, -⟩ := nam.blk2 GR
      have A := awake_any wr (HM.out.below HBF.out)
      clear GR HV HCH HEN hend
      by_cases hq : q = 0
      · have hbn := HQ0.out hq
        subst hbn
        subst hq
        go_wp2_with fail
        refine A.mono ?_
        rintro e w2 ⟨rfl, B2⟩
        go_wp2
        go_ret
        exact ⟨rfl, HBF.out.trans (B2.mono HBF.out.size)⟩
      · obtain ⟨j1, j2⟩ := HQ1.out hq
        have hq2 : (q == 0) = false := by simp [hq]
        have j3 : (b : Int) ≤ (p : Int) := by omega
        have j4 : (p : Int) ≤ (n : Int) := by omega
        have j5 : (b : Int) ≤ (n : Int) := by omega
        go_wp2_with fail
        refine A.mono ?_
        rintro e w2 ⟨rfl, B2⟩
        go_wp2
        go_ret
        exact ⟨rfl, HBF.out.trans (B2.mono HBF.out.size)⟩
theorem stands_w (v : Value) (n : Nat) (f : Nat → Int) (w : World) (h : ArgB w v n f) (hm : utf.Marks w) : Calls Tryd.prog 3 #[v] w fun e w' => e = .returned (.bool true) ∧ Below w.heap.size w w' := by
  obtain ⟨ao, cap, rfl, hB, hf, hc, hcm⟩ := h
  exact stands_walk ao n cap f w hB hm hf hc hcm
end Go.Proofs.YtlgkfnecahgedaaDoor.tok
end
