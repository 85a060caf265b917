/- Texts that the proof leans on, one behind the other. -/
import Derived.Test.YtbdediacfckpcaaGreatDoorBeTre15

section
/- The pieces of a pattern, read as tokens where they stand: properties; how a code point's piece begins. Plain mathematics. -/
set_option linter.unusedVariables false
set_option linter.unusedSimpArgs false
namespace Go.Proofs.YtbdediacfckpcaaGreatDoor.tre
open Go.RowKit nod tok

/-- A sign of a property's value. -/
def plainB (x : UInt8) : Bool := decide (32 ≤ x.toNat) && decide (x.toNat ≤ 126) && x != 125
theorem rows_plain : nam.rowsL.all (fun r => r.2.1.all plainB) = true := by decide +kernel
theorem look_plain {x : List UInt8 × List UInt8} {r : nam.R3} (h : nam.lookL x = some r) : r.2.1.all plainB = true := by
  have := List.all_eq_true.1 rows_plain r (List.mem_of_find?_eq_some h)
  exact this
theorem alone_plain (l : List UInt8) (h : (nam.aloneL l).2.2 = 0) : (nam.aloneL l).2.1.all plainB = true := by
  unfold nam.aloneL at *
  split
  · rename_i r hr; exact look_plain hr
  · split
    · rename_i r hr; exact look_plain hr
    · split
      · rename_i r hr; exact look_plain hr
      · rfl
theorem both_plain (p v : List UInt8) (h : (nam.bothL p v).2.2 = 0) : (nam.bothL p v).2.1.all plainB = true := by
  unfold nam.bothL at *
  split
  · rfl
  · split
    · rfl
    · rename_i q hq; exact look_plain hq
theorem canon_plain (s : ByteArray) (h : (nam.resolveV s).2.2 = 0) : (canonL (nam.resolveV s)).all plainB = true := by
  have hv : (nam.resolveV s).2.1.all plainB = true := by
    unfold nam.resolveV at *
    split
    · rename_i hm; rw [if_pos hm] at h; exact alone_plain _ h
    · rename_i hm; rw [if_neg hm] at h; exact both_plain _ _ h
  unfold canonL
  split
  · rw [List.all_append, hv]; decide
  · split
    · rw [List.all_append, hv]; decide
    · exact hv
/-- A property's value, as a pattern says it. -/
def propOk (m : ByteArray) : Prop := (nam.resolveV m).2.2 = 0 ∧ canonL (nam.resolveV m) = m.data.toList
def propGood (m : ByteArray) : Prop := m = ⟨#[100]⟩ ∨ m = ⟨#[119]⟩ ∨ m = ⟨#[115]⟩ ∨ propOk m
theorem ba_data (m : ByteArray) : lin.BA m.data.toList = m := by
  obtain ⟨⟨l⟩⟩ := m
  rfl
theorem propT_long {m : ByteArray} {g : Bool} (h1 : m ≠ ⟨#[100]⟩) (h2 : m ≠ ⟨#[119]⟩) (h3 : m ≠ ⟨#[115]⟩) : (propT m g).data.toList = 92 :: (if g then 80 else 112) :: 123 :: (m.data.toList ++ [125]) ∧ (propT m g).size = m.data.toList.length + 4 := by
  have e : (propT m g).data.toList = 92 :: (if g then 80 else 112) :: 123 :: (m.data.toList ++ [125]) := by
    unfold propT; rw [if_neg h1, if_neg h2, if_neg h3]
    cases g <;> (simp only [Bool.false_eq_true, if_false, if_true]; rw [data_app, data_app]; rfl)
  refine ⟨e, ?_⟩
  have : (propT m g).data.toList.length = (propT m g).size := Array.length_toList
  rw [← this, e]; simp
section
variable {f : Nat → Int} {n : Nat}
/-- A property's beginning. -/
theorem esc_prop {a k : Nat} {g : Bool} {l : List UInt8} (h : Lie f n a (92 :: (if g then 80 else 112) :: 123 :: l)) : token f n a k = ((exprR f n (n + 1 - (a + 3)) (a + 3)).bind fun _ e => (meant f a (a + 3) e).bind fun s b => .ok (prop s g) b).with_ k := by
  have h1 : f (a + 1) = if g then 80 else 112 := by have := h.b1.1; cases g <;> simpa using this
  rw [tokEsc k h.b0.1 h1 (by split <;> decide) (by split <;> decide) h.b1.2]
  congr 1
  unfold escape
  rw [point_low (by split <;> decide) (by split <;> decide) h.b1.2 h1, bind_ok]
  have hw : want f n a 123 (a + 1 + 1) = .ok () (a + 1 + 1 + 1) := want_at f n h.b2.2 h.b2.1
  have hx : expr f n a (a + 1 + 1) = (exprR f n (n + 1 - (a + 3)) (a + 3)).bind fun _ e => meant f a (a + 3) e := by
    unfold expr; rw [hw, bind_ok]
  have hb : ∀ o : Out Unit, (o.bind fun _ e => meant f a (a + 3) e).bind (fun s b => Out.ok (prop s g) b) = o.bind fun _ e => (meant f a (a + 3) e).bind fun s b => .ok (prop s g) b := fun o => by cases o <;> rfl
  cases g
  · simp only [Bool.false_eq_true, if_false]
    simp only [show ¬ (112 : Int) = 100 by decide, show ¬ (112 : Int) = 119 by decide, show ¬ (112 : Int) = 115 by decide, show ¬ (112 : Int) = 68 by decide, show ¬ (112 : Int) = 87 by decide, show ¬ (112 : Int) = 83 by decide, if_false, if_true]
    rw [hx]; exact hb _
  · simp only [if_true]
    simp only [show ¬ (80 : Int) = 100 by decide, show ¬ (80 : Int) = 119 by decide, show ¬ (80 : Int) = 115 by decide, show ¬ (80 : Int) = 68 by decide, show ¬ (80 : Int) = 87 by decide, show ¬ (80 : Int) = 83 by decide, show ¬ (80 : Int) = 112 by decide, if_false, if_true]
    rw [hx]; exact hb _
theorem propGood_of {m : ByteArray} {g : Bool} (h : namedB (propT m g) m = true) : propGood m := by
  by_cases h1 : m = ⟨#[100]⟩
  · exact .inl h1
  by_cases h2 : m = ⟨#[119]⟩
  · exact .inr (.inl h2)
  by_cases h3 : m = ⟨#[115]⟩
  · exact .inr (.inr (.inl h3))
  refine .inr (.inr (.inr ?_))
  obtain ⟨t, ht, hm⟩ := named_one h
  obtain ⟨e, es⟩ := propT_long (g := g) h1 h2 h3
  have hl := sfB_lie (propT m g)
  rw [e] at hl
  generalize sfB (propT m g) = F at *
  generalize (propT m g).size = N at *
  have hr : Lie F N 3 (m.data.toList ++ [125]) := Lie.right (l := [92, if g then 80 else 112, 123]) hl
  rw [esc_prop hl] at ht
  cases hx : exprR F N (N + 1 - (0 + 3)) (0 + 3) with
  | no c p => rw [hx] at ht; cases ht
  | ok u b =>
    rw [hx, bind_ok] at ht
    unfold meant at ht
    split at ht
    · rename_i hc
      have ht' : Out.ok ((prop (canonL (nam.resolveV (lin.BA (tok.bytes F (0 + 3) (b - 1))))) g, 0) : Tk × Nat) b = .ok t N := ht
      cases ht'
      have hb : tok.bytes F (0 + 3) (N - 1) = m.data.toList := by
        have := bytes_lie hr.left
        rw [show N - 1 = 3 + m.data.toList.length by omega]
        exact this
      rw [hb, ba_data] at hc
      have hm' : lin.BA (canonL (nam.resolveV (lin.BA (tok.bytes F (0 + 3) (N - 1))))) = m := hm
      rw [hb, ba_data] at hm'
      exact ⟨hc, by have := congrArg (fun x : ByteArray => x.data.toList) hm'; simpa [lin.BA] using this⟩
    · cases ht
theorem exprR_ok : ∀ (l : List UInt8) (a m : Nat), l.all plainB = true → Lie f n a (l ++ [125]) → l.length < m → exprR f n m a = .ok () (a + l.length + 1)
  | [], a, m, _, h, hm => by
    obtain ⟨q, rfl⟩ : ∃ q, m = q + 1 := ⟨m - 1, by simp at hm; omega⟩
    have h : Lie f n a [125] := h
    rw [exprR, point_low (r := 125) (by decide) (by decide) h.b0.2 h.b0.1, bind_ok, if_pos rfl]; rfl
  | x :: l, a, m, hp, h, hm => by
    obtain ⟨q, rfl⟩ : ∃ q, m = q + 1 := ⟨m - 1, by simp at hm; omega⟩
    have h : Lie f n a (x :: (l ++ [125])) := h
    simp only [List.all_cons, Bool.and_eq_true] at hp
    obtain ⟨hx, hp⟩ := hp
    unfold plainB at hx
    simp only [Bool.and_eq_true, decide_eq_true_eq, bne_iff_ne] at hx
    have hne : ¬ (x.toNat : Int) = 125 := fun h => hx.2 (UInt8.toNat_inj.1 (by show x.toNat = 125; omega))
    rw [exprR, point_low (r := x.toNat) (by omega) (by omega) h.b0.2 h.b0.1, bind_ok, if_neg hne, exprR_ok l (a + 1) q hp (Lie.right (l := [x]) h) (by simp at hm; omega)]
    rw [List.length_cons, show a + 1 + l.length + 1 = a + (l.length + 1) + 1 by omega]
theorem esc_letter {a k : Nat} {x : Int} {s : List UInt8} {g : Bool} (e0 : f a = 92) (e1 : f (a + 1) = x) (hl : a + 1 < n) (hx : (x = 100 ∧ s = [100] ∧ g = false) ∨ (x = 119 ∧ s = [119] ∧ g = false) ∨ (x = 115 ∧ s = [115] ∧ g = false) ∨ (x = 68 ∧ s = [100] ∧ g = true) ∨ (x = 87 ∧ s = [119] ∧ g = true) ∨ (x = 83 ∧ s = [115] ∧ g = true)) : token f n a k = .ok (prop s g, k) (a + 2) := by
  rw [tokEsc k e0 e1 (by omega) (by omega) hl]
  have he : escape f n a (a + 1) k = .ok (prop s g) (a + 2) := by
    unfold escape
    rw [point_low (by omega) (by omega) hl e1, bind_ok]
    rcases hx with ⟨rfl, rfl, rfl⟩ | ⟨rfl, rfl, rfl⟩ | ⟨rfl, rfl, rfl⟩ | ⟨rfl, rfl, rfl⟩ | ⟨rfl, rfl, rfl⟩ | ⟨rfl, rfl, rfl⟩ <;> simp
  rw [he]; rfl
/-- A property. -/
theorem lex_prop {a k : Nat} {m : ByteArray} {g : Bool} (hg : propGood m) (h : Lie f n a (propT m g).data.toList) : token f n a k = .ok (prop m.data.toList g, k) (a + (propT m g).size) := by
  by_cases h1 : m = ⟨#[100]⟩
  · subst h1
    cases g
    · have h : Lie f n a [92, 100] := h; exact esc_letter h.b0.1 h.b1.1 h.b1.2 (by simp)
    · have h : Lie f n a [92, 68] := h; exact esc_letter h.b0.1 h.b1.1 h.b1.2 (by simp)
  by_cases h2 : m = ⟨#[119]⟩
  · subst h2
    cases g
    · have h : Lie f n a [92, 119] := h; exact esc_letter h.b0.1 h.b1.1 h.b1.2 (by simp)
    · have h : Lie f n a [92, 87] := h; exact esc_letter h.b0.1 h.b1.1 h.b1.2 (by simp)
  by_cases h3 : m = ⟨#[115]⟩
  · subst h3
    cases g
    · have h : Lie f n a [92, 115] := h; exact esc_letter h.b0.1 h.b1.1 h.b1.2 (by simp)
    · have h : Lie f n a [92, 83] := h; exact esc_letter h.b0.1 h.b1.1 h.b1.2 (by simp)
  have hk : propOk m := by
    rcases hg with h | h | h | h
    · exact absurd h h1
    · exact absurd h h2
    · exact absurd h h3
    · exact h
  obtain ⟨e, es⟩ := propT_long (g := g) h1 h2 h3
  rw [e] at h
  rw [es, esc_prop h]
  have hr : Lie f n (a + 3) (m.data.toList ++ [125]) := Lie.right (l := [92, if g then 80 else 112, 123]) h
  have hp : m.data.toList.all plainB = true := by rw [← hk.2]; exact canon_plain m hk.1
  have hlen := hr.1
  simp only [List.length_append, List.length_cons, List.length_nil] at hlen
  rw [exprR_ok m.data.toList (a + 3) _ hp hr (by omega), bind_ok]
  have hb : tok.bytes f (a + 3) (a + 3 + m.data.toList.length + 1 - 1) = m.data.toList := by rw [Nat.add_sub_cancel]; exact bytes_lie hr.left
  unfold meant
  rw [hb, ba_data, if_pos hk.1, bind_ok, hk.2]
  rw [show a + 3 + m.data.toList.length + 1 = a + (m.data.toList.length + 4) by omega]
  rfl
/-- How a code point's piece begins. -/
theorem print_first (r : Int) (c : Bool) (hr : utf.len r ≠ 0) : (printL r c).getD 0 0 = 92 ∨ (printL r c).getD 0 0 ∉ (if c = true then marksC else marksO) := by
  obtain ⟨r0, r1, r2, hc⟩ := utf.len_cases r hr
  unfold printL
  rw [if_neg hr]
  have hlow : ∀ x ∈ (if c = true then marksC else marksO), x ≤ 126 := by cases c <;> decide
  generalize (if c = true then marksC else marksO) = M at *
  split
  · left; rfl
  · split
    · left; rfl
    · rename_i hm
      right
      rcases hc with ⟨q, q'⟩ | ⟨q, q', _⟩ | ⟨q, q', _⟩ | ⟨q, q'⟩
      · have : utf.enc r = [r] := by unfold utf.enc; rw [if_pos q]
        rw [this]; exact hm
      · have : utf.enc r = [192 + r / 64, 128 + r % 64] := by unfold utf.enc; rw [if_neg (by omega), if_pos q]
        rw [this]; intro hh; have := hlow _ hh; simp at this; omega
      · have : utf.enc r = [224 + r / 64 / 64, 128 + r / 64 % 64, 128 + r % 64] := by unfold utf.enc; rw [if_neg (by omega), if_neg (by omega), if_pos q]
        rw [this]; intro hh; have := hlow _ hh; simp at this; omega
      · have : utf.enc r = [240 + r / 64 / 64 / 64, 128 + r / 64 / 64 % 64, 128 + r / 64 % 64, 128 + r % 64] := by unfold utf.enc; rw [if_neg (by omega), if_neg (by omega), if_neg (by omega), if_pos q]
        rw [this]; intro hh; have := hlow _ hh; simp at this; omega
end
end Go.Proofs.YtbdediacfckpcaaGreatDoor.tre
end

section
/- The tokens of a class's text. Plain mathematics. -/
set_option linter.unusedVariables false
set_option linter.unusedSimpArgs false
namespace Go.Proofs.YtbdediacfckpcaaGreatDoor.tre
open Go.RowKit nod tok

/-- The tokens of a member, and of what stands between a class's brackets. -/
def tkMem (ins : Nd → List Tk) (t : Nd) : List Tk :=
  if t.kind = 1 then [char t.a] else if t.kind = 4 then [char t.a, bare 13, char t.b] else if t.kind = 5 then [prop t.name.data.toList t.neg] else classT t.neg :: (ins t ++ [bare 12])
def tkIns : Nat → Nd → List Tk
  | 0, _ => []
  | N + 1, t => if t.mode = 0 then t.kids.flatMap (tkMem (tkIns N)) else (match t.kids with | [l, r] => tkIns N l ++ setT t.mode :: tkIns N r | _ => [])
/-- What a writer holds stands at the text's beginning. -/
def Tx (f : Nat → Int) (n : Nat) (s : Wr) : Prop := Lie f n 0 s.text
section
variable {f : Nat → Int} {n : Nat}
theorem Tx.put {s s1 : Wr} {t : ByteArray} (h : putO s t = some s1) (x : Tx f n s1) : Lie f n s.text.length t.data.toList ∧ s1.text.length = s.text.length + t.size ∧ Tx f n s ∧ 0 < t.size := by
  have h0 : t.size ≠ 0 := by intro e; unfold putO at h; rw [if_pos e] at h; cases h
  obtain ⟨rfl, _⟩ := putO_some h
  have e : ((s.less t.size).add t).text = s.text ++ t.data.toList := rfl
  unfold Tx at *
  rw [e] at x
  have hr := x.right
  rw [Nat.zero_add] at hr
  refine ⟨hr, ?_, x.left, by omega⟩
  rw [e, List.length_append, show t.data.toList.length = t.size from Array.length_toList]
theorem Tx.enter {s s1 : Wr} {t : ByteArray} (h : enterO s t = some s1) (x : Tx f n s1) : Lie f n s.text.length t.data.toList ∧ s1.text.length = s.text.length + t.size ∧ Tx f n s ∧ 0 < t.size := Tx.put (s := s.deep 1) (enterO_some h).2 x
theorem Tx.leave {s s1 : Wr} {t : ByteArray} (h : leaveO s t = some s1) (x : Tx f n s1) : Lie f n s.text.length t.data.toList ∧ s1.text.length = s.text.length + t.size ∧ Tx f n s ∧ 0 < t.size := Tx.put (s := s.deep (-1)) h x
theorem tx_data (L : List Int) (hL : ∀ i, 0 ≤ L.getD i 0 ∧ L.getD i 0 ≤ 255) : ∀ i (hi : i < L.length), ∃ x : UInt8, (TX L).data.toList[i]? = some x ∧ (x.toNat : Int) = L.getD i 0 := fun i hi => by
  have e : (TX L).data.toList = Lib.bytesOf L := by unfold TX lin.BA; simp
  refine ⟨UInt8.ofNat (L.getD i 0).toNat, ?_, ?_⟩
  · rw [e]; unfold Lib.bytesOf; rw [List.getElem?_map, List.getElem?_eq_getElem hi]; simp [List.getD_eq_getElem?_getD, List.getElem?_eq_getElem hi]
  · have := hL i
    obtain ⟨v, hv⟩ : ∃ v : Nat, L.getD i 0 = v := ⟨(L.getD i 0).toNat, by omega⟩
    rw [hv] at this ⊢
    have h256 : v < 256 := by omega
    simp [Nat.mod_eq_of_lt h256]
/-- A code point's piece stands there. -/
theorem Lie.print {a : Nat} {r : Int} {c : Bool} (h : Lie f n a (TX (printL r c)).data.toList) : Here f n a (printL r c) := by
  have hl : (TX (printL r c)).data.toList.length = (printL r c).length := by rw [show (TX (printL r c)).data.toList.length = (TX (printL r c)).size from Array.length_toList, TX_size]
  refine ⟨by have := h.1; rwa [hl] at this, fun i hi => ?_⟩
  obtain ⟨x, hx, he⟩ := tx_data (printL r c) (print_range r c) i hi
  rw [h.2 i x hx, he]
/-- A code point that has a piece. -/
theorem put_char {s s1 : Wr} {r : Int} {c : Bool} (h : putO s (TX (printL r c)) = some s1) : utf.len r ≠ 0 := by
  intro e
  have : (TX (printL r c)).size = 0 := by rw [print_none r c e]; rfl
  unfold putO at h; rw [if_pos this] at h; cases h
theorem lex_char {s s1 : Wr} {r : Int} (k : Nat) (h : putO s (TX (printL r (decide (0 < k)))) = some s1) (x : Tx f n s1) : token f n s.text.length k = .ok (char r, k) s1.text.length ∧ (f s.text.length = 92 ∨ f s.text.length ∉ (if decide (0 < k) = true then marksC else marksO)) := by
  obtain ⟨h1, h2, h3, h4⟩ := Tx.put h x
  have hr := put_char h
  have hh := h1.print
  refine ⟨?_, ?_⟩
  · rw [token_print f n hr hh, h2, TX_size]
  · have h0 : 0 < (printL r (decide (0 < k))).length := by rw [TX_size] at h4; exact h4
    have := hh.2 0 h0
    rw [Nat.add_zero] at this
    rw [this]
    exact print_first r _ hr
theorem notC {x : Int} (h : x = 92 ∨ x ∉ marksC) : x ≠ 94 ∧ x ≠ 45 := by
  rcases h with rfl | h
  · decide
  · exact ⟨fun e => h (by rw [e]; decide), fun e => h (by rw [e]; decide)⟩
theorem notO {x : Int} (h : x = 92 ∨ x ∉ marksO) : x ≠ 42 ∧ x ≠ 43 ∧ x ≠ 63 ∧ x ≠ 123 ∧ x ≠ 124 ∧ x ≠ 41 := by
  rcases h with rfl | h
  · decide
  · exact ⟨fun e => h (by rw [e]; decide), fun e => h (by rw [e]; decide), fun e => h (by rw [e]; decide), fun e => h (by rw [e]; decide), fun e => h (by rw [e]; decide), fun e => h (by rw [e]; decide)⟩
/-- What a part of a class reads as. -/
def CLex (P : Wr → Nd → Option Wr) (tk : Nd → List Tk) : Prop := ∀ (t : Nd) (s s' : Wr), P s t = some s' → ∀ (f : Nat → Int) (n k : Nat), Tx f n s' → Rd f n s.text.length (k + 1) (tk t) s'.text.length (k + 1) ∧ Tx f n s ∧ s.text.length < s'.text.length ∧ f s.text.length ≠ 94 ∧ f s.text.length ≠ 45
theorem prop_lex {s s' : Wr} {m : ByteArray} {g : Bool} (h : propO s m g = some s') (k : Nat) (x : Tx f n s') : token f n s.text.length k = .ok (prop m.data.toList g, k) s'.text.length ∧ Tx f n s ∧ s.text.length < s'.text.length ∧ f s.text.length = 92 := by
  unfold propO at h
  split at h
  · rename_i hn
    obtain ⟨h1, h2, h3, h4⟩ := Tx.put h x
    have hg := propGood_of hn
    refine ⟨by rw [lex_prop hg h1, h2], h3, by omega, ?_⟩
    have e : ∃ l, (propT m g).data.toList = 92 :: l := by
      unfold propT
      split
      · cases g <;> exact ⟨_, rfl⟩
      · split
        · cases g <;> exact ⟨_, rfl⟩
        · split
          · cases g <;> exact ⟨_, rfl⟩
          · cases g <;> (simp only [Bool.false_eq_true, if_false, if_true]; rw [data_app, data_app]; exact ⟨_, rfl⟩)
    obtain ⟨l, e⟩ := e
    rw [e] at h1
    exact h1.b0.1
  · cases h
theorem class_lex {ins : Wr → Nd → Option Wr} {tk : Nd → List Tk} (hI : CLex ins tk) {t : Nd} {s s' : Wr} (h : classO ins s t = some s') (k : Nat) (x : Tx f n s') : Rd f n s.text.length k (classT t.neg :: (tk t ++ [bare 12])) s'.text.length k ∧ Tx f n s ∧ s.text.length < s'.text.length ∧ f s.text.length = 91 := by
  unfold classO at h
  obtain ⟨s1, h1, h⟩ := bind_some h
  obtain ⟨s2, h2, h3⟩ := bind_some h
  obtain ⟨c1, c2, c3, c4⟩ := Tx.leave h3 x
  obtain ⟨d1, d2, d3, d4, d5⟩ := hI t s1 s2 h2 f n k c3
  obtain ⟨e1, e2, e3, e4⟩ := Tx.enter h1 d2
  have hc1 : Lie f n s2.text.length [93] := c1
  have last : Rd f n s2.text.length (k + 1) [bare 12] s'.text.length k := .one (by rw [lex_end hc1.b0.1 hc1.b0.2, c2]; rfl)
  cases hg : t.neg with
  | false =>
    rw [hg] at e1 e2
    have e1 : Lie f n s.text.length [91] := e1
    have e2 : s1.text.length = s.text.length + 1 := e2
    exact ⟨.cons (lex_class e1.b0.1 e1.b0.2 (by rw [← e2]; exact d4)) (by rw [← e2]; exact d1.app last), e3, by omega, e1.b0.1⟩
  | true =>
    rw [hg] at e1 e2
    have e1 : Lie f n s.text.length [91, 94] := e1
    have e2 : s1.text.length = s.text.length + 2 := e2
    exact ⟨.cons (lex_classN e1) (by rw [← e2]; exact d1.app last), e3, by omega, e1.b0.1⟩
theorem member_lex {ins : Wr → Nd → Option Wr} {tk : Nd → List Tk} (hI : CLex ins tk) : CLex (memberO ins) (tkMem tk) := by
  intro t s s' h f n k x
  unfold memberO at h
  split at h
  · cases h
  split at h
  · rename_i hk
    have c := lex_char (f := f) (n := n) (k + 1) h x
    obtain ⟨p1, p2, p3, p4⟩ := Tx.put h x
    refine ⟨?_, p3, by omega, notC c.2⟩
    rw [show tkMem tk t = [char t.a] by unfold tkMem; rw [if_pos hk]]
    exact .one c.1
  rename_i hk1
  split at h
  · rename_i hk
    unfold rangeO at h
    split at h
    · obtain ⟨s1, h1, h⟩ := bind_some h
      obtain ⟨s2, h2, h3⟩ := bind_some h
      have c3 := lex_char (f := f) (n := n) (k + 1) h3 x
      obtain ⟨p1, p2, p3, p4⟩ := Tx.put h3 x
      obtain ⟨q1, q2, q3, q4⟩ := Tx.put h2 p3
      have c1 := lex_char (f := f) (n := n) (k + 1) h1 q3
      obtain ⟨r1, r2, r3, r4⟩ := Tx.put h1 q3
      have q1 : Lie f n s1.text.length [45] := q1
      have q2 : s2.text.length = s1.text.length + 1 := q2
      refine ⟨?_, r3, by omega, notC c1.2⟩
      rw [show tkMem tk t = [char t.a, bare 13, char t.b] by unfold tkMem; rw [if_neg hk1, if_pos hk]]
      exact .cons c1.1 (.cons (by rw [lex_dash q1.b0.1 q1.b0.2 (by rw [← q2]; exact (notC c3.2).2), q2]) (.one c3.1))
    · cases h
  rename_i hk4
  split at h
  · rename_i hk
    obtain ⟨p1, p2, p3, p4⟩ := prop_lex h (k + 1) x
    refine ⟨?_, p2, p3, by rw [p4]; decide⟩
    rw [show tkMem tk t = [prop t.name.data.toList t.neg] by unfold tkMem; rw [if_neg hk1, if_neg hk4, if_pos hk]]
    exact .one p1
  rename_i hk5
  split at h
  · obtain ⟨p1, p2, p3, p4⟩ := class_lex hI h (k + 1) x
    refine ⟨?_, p2, p3, by rw [p4]; decide⟩
    rw [show tkMem tk t = classT t.neg :: (tk t ++ [bare 12]) by unfold tkMem; rw [if_neg hk1, if_neg hk4, if_neg hk5]]
    exact p1
  · cases h
theorem loop_lexC {P : Wr → Nd → Option Wr} {tk : Nd → List Tk} (hP : CLex P tk) : ∀ (ks : List Nd) (s s' : Wr), loopO P ks s = some s' → ∀ (f : Nat → Int) (n k : Nat), Tx f n s' → Rd f n s.text.length (k + 1) (ks.flatMap tk) s'.text.length (k + 1) ∧ Tx f n s ∧ (ks ≠ [] → s.text.length < s'.text.length ∧ f s.text.length ≠ 94 ∧ f s.text.length ≠ 45) ∧ s.text.length ≤ s'.text.length
  | [], s, s', h, f, n, k, x => by
    rw [loopO] at h; cases h
    exact ⟨.nil _ _, x, fun h => absurd rfl h, Nat.le_refl _⟩
  | t :: ts, s, s', h, f, n, k, x => by
    rw [loopO] at h
    obtain ⟨s1, h1, h2⟩ := bind_some h
    obtain ⟨a1, a2, a3, a4⟩ := loop_lexC hP ts s1 s' h2 f n k x
    obtain ⟨b1, b2, b3, b4⟩ := hP t s s1 h1 f n k a2
    refine ⟨?_, b2, fun _ => ⟨by omega, b4⟩, by omega⟩
    rw [List.flatMap_cons]
    exact b1.app a1
theorem inside_lex : ∀ N : Nat, CLex (insideO N) (tkIns N)
  | 0 => fun t s s' h => by rw [insideO] at h; cases h
  | N + 1 => fun t s s' h f n k x => by
    rw [insideO] at h
    rw [tkIns]
    by_cases hm : t.mode = 0
    · rw [if_pos hm] at h ⊢
      by_cases hl : t.kids.length = 0
      · rw [if_pos hl] at h; cases h
      · rw [if_neg hl] at h
        obtain ⟨a1, a2, a3, a4⟩ := loop_lexC (member_lex (inside_lex N)) t.kids s s' h f n k x
        have := a3 (fun e => hl (by rw [e]; rfl))
        exact ⟨a1, a2, this.1, this.2⟩
    · rw [if_neg hm] at h ⊢
      by_cases hm2 : t.mode = 1 ∨ t.mode = 2 ∨ t.mode = 3
      · rw [if_pos hm2] at h
        generalize t.kids = ks at *
        match ks, h with
        | [l, r], h =>
          simp only [sidesO] at h
          split at h
          · obtain ⟨s1, h1, h2⟩ := bind_some h
            obtain ⟨a1, a2, a3, a4⟩ := inside_lex N r _ _ h2 f n k x
            have e : (s1.add (textP t.mode opTexts)).text = s1.text ++ (textP t.mode opTexts).data.toList := rfl
            have hlen : (s1.add (textP t.mode opTexts)).text.length = s1.text.length + 2 := by
              rw [e, List.length_append, show (textP t.mode opTexts).data.toList.length = (textP t.mode opTexts).size from Array.length_toList, opSize hm2]
            have x1 : Lie f n 0 (s1.text ++ (textP t.mode opTexts).data.toList) := e ▸ a2
            have hop := x1.right
            rw [Nat.zero_add] at hop
            have x2 : Tx f n s1 := x1.left
            obtain ⟨b1, b2, b3, b4⟩ := inside_lex N l _ _ h1 f n k x2
            refine ⟨?_, b2, ?_, b4⟩
            · refine b1.app (.cons (lex_op hm2 hop) ?_)
              rw [← hlen]; exact a1
            · have b3' : s.text.length < s1.text.length := b3
              omega
          · cases h
      · rw [if_neg hm2] at h; cases h
end
end Go.Proofs.YtbdediacfckpcaaGreatDoor.tre
end

section
/- The tokens of a tree's pattern. Plain mathematics. -/
set_option linter.unusedVariables false
set_option linter.unusedSimpArgs false
namespace Go.Proofs.YtbdediacfckpcaaGreatDoor.tre
open Go.RowKit nod tok

/-- The tokens of a part; of sequences, alternatives, bodies. -/
def tkSeq (tk : Nd → List Tk) (t : Nd) : List Tk := t.kids.flatMap tk
def tkBody (tk : Nd → List Tk) (t : Nd) : List Tk :=
  if t.kind = 6 then tkSeq tk t else (match t.kids with | x :: xs => tkSeq tk x ++ xs.flatMap (fun y => bare 5 :: tkSeq tk y) | [] => [])
def tkEncl (tk : Nd → List Tk) (o : Tk) (t : Nd) : List Tk := o :: ((match t.kids with | [x] => tkBody tk x | _ => []) ++ [bare 4])
def tkPart : Nat → Nd → List Tk
  | 0, _ => []
  | N + 1, t =>
    if t.kind = 1 then [char t.a] else if t.kind = 2 then [bare 2]
    else if t.kind = 3 then classT t.neg :: (tkIns N t ++ [bare 12])
    else if t.kind = 5 then [prop t.name.data.toList t.neg]
    else if t.kind = 8 then (match t.kids with | [x] => tkPart N x | _ => []) ++ [⟨6, t.mode, t.a, t.b, [], false, 0, 0⟩]
    else if t.kind = 9 then tkEncl (tkPart N) (if t.a = 0 then opening 1 else if t.name.size = 0 then opening 0 else ⟨3, 2, 0, 0, t.name.data.toList, false, 0, 0⟩) t
    else if t.kind = 10 then tkEncl (tkPart N) (opening (t.mode + 3)) t
    else if t.kind = 11 then tkEncl (tkPart N) (opening 7) t
    else if t.kind = 12 then [asrt t.mode]
    else if t.kind = 13 then [⟨9, 0, t.a, 0, [], false, 0, 0⟩]
    else [bare 10]
/-- What stands behind a sequence, and behind a body: nothing, a closing bracket; a bar too. -/
def TerS (f : Nat → Int) (n a : Nat) : Prop := n ≤ a ∨ f a = 41 ∨ f a = 124
def TerB (f : Nat → Int) (n a : Nat) : Prop := n ≤ a ∨ f a = 41
theorem TerB.s {f : Nat → Int} {n a : Nat} (h : TerB f n a) : TerS f n a := h.elim .inl (fun h => .inr (.inl h))
theorem TerS.fol {f : Nat → Int} {n a : Nat} (h : TerS f n a) : Fol f n a := by
  rcases h with h | h | h
  · exact .inl h
  · right; rw [h]; decide
  · right; rw [h]; decide
/-- How a part begins. -/
def Beg (x : Int) : Prop := x ≠ 42 ∧ x ≠ 43 ∧ x ≠ 63 ∧ x ≠ 123 ∧ x ≠ 124 ∧ x ≠ 41
/-- What a part reads as. -/
def PLex (P : Wr → Nd → Option Wr) (tk : Nd → List Tk) : Prop := ∀ (t : Nd) (s s' : Wr), P s t = some s' → Gd s → ∀ (f : Nat → Int) (n : Nat), Tx f n s' → (repB t.kind = false → Fol f n s'.text.length) → Rd f n s.text.length 0 (tk t) s'.text.length 0 ∧ Tx f n s ∧ s.text.length < s'.text.length ∧ Beg (f s.text.length)
section
variable {f : Nat → Int} {n : Nat}
theorem tx_len {s : Wr} (x : Tx f n s) : s.text.length ≤ n := by have := x.1; omega
theorem loop_lex {P : Wr → Nd → Option Wr} {tk : Nd → List Tk} (hr : PartRun P) (hP : PLex P tk) : ∀ (ks : List Nd) (s s' : Wr), loopO P ks s = some s' → Gd s → ∀ (f : Nat → Int) (n : Nat), Tx f n s' → TerS f n s'.text.length → Rd f n s.text.length 0 (ks.flatMap tk) s'.text.length 0 ∧ Tx f n s ∧ s.text.length ≤ s'.text.length ∧ (Beg (f s.text.length) ∧ s.text.length < s'.text.length ∨ s.text.length = s'.text.length)
  | [], s, s', h, g, f, n, x, ht => by
    rw [loopO] at h; cases h
    exact ⟨.nil _ _, x, Nat.le_refl _, .inr rfl⟩
  | t :: ts, s, s', h, g, f, n, x, ht => by
    rw [loopO] at h
    obtain ⟨s1, h1, h2⟩ := bind_some h
    obtain ⟨a1, a2, a3, a4⟩ := loop_lex hr hP ts s1 s' h2 (hr t s s1 h1 g).gd f n x ht
    have hf : Fol f n s1.text.length := by
      rcases a4 with ⟨q, _⟩ | q
      · exact .inr ⟨q.1, q.2.1, q.2.2.1, q.2.2.2.1⟩
      · rw [q]; exact ht.fol
    obtain ⟨b1, b2, b3, b4⟩ := hP t s s1 h1 g f n a2 (fun _ => hf)
    refine ⟨?_, b2, by omega, .inl ⟨b4, by omega⟩⟩
    rw [List.flatMap_cons]
    exact b1.app a1
theorem seq_lex {P : Wr → Nd → Option Wr} {tk : Nd → List Tk} (hr : PartRun P) (hP : PLex P tk) {t : Nd} {s s' : Wr} (h : seqO P s t = some s') (g : Gd s) (x : Tx f n s') (ht : TerS f n s'.text.length) : Rd f n s.text.length 0 (tkSeq tk t) s'.text.length 0 ∧ Tx f n s ∧ s.text.length ≤ s'.text.length ∧ (Beg (f s.text.length) ∧ s.text.length < s'.text.length ∨ s.text.length = s'.text.length) := by
  unfold seqO at h
  split at h
  · exact loop_lex hr hP t.kids s s' h g f n x ht
  · cases h
/-- Further alternatives: each behind its bar. -/
theorem bars_lex {P : Wr → Nd → Option Wr} {tk : Nd → List Tk} (hr : PartRun P) (hP : PLex P tk) : ∀ (ks : List Nd) (s s' : Wr), loopO (barO P) ks s = some s' → Gd s → ∀ (f : Nat → Int) (n : Nat), Tx f n s' → TerS f n s'.text.length → Rd f n s.text.length 0 (ks.flatMap fun y => bare 5 :: tkSeq tk y) s'.text.length 0 ∧ Tx f n s ∧ s.text.length ≤ s'.text.length ∧ (f s.text.length = 124 ∧ s.text.length < s'.text.length ∨ s.text.length = s'.text.length)
  | [], s, s', h, g, f, n, x, ht => by
    rw [loopO] at h; cases h
    exact ⟨.nil _ _, x, Nat.le_refl _, .inr rfl⟩
  | t :: ts, s, s', h, g, f, n, x, ht => by
    rw [loopO] at h
    obtain ⟨s1, h1, h2⟩ := bind_some h
    obtain ⟨a1, a2, a3, a4⟩ := bars_lex hr hP ts s1 s' h2 (bar_run hr t s s1 h1 g).gd f n x ht
    have hs : TerS f n s1.text.length := by
      rcases a4 with ⟨q, _⟩ | q
      · exact .inr (.inr q)
      · rw [q]; exact ht
    unfold barO at h1
    obtain ⟨s0, g1, g2⟩ := bind_some h1
    obtain ⟨b1, b2, b3, b4⟩ := seq_lex hr hP g2 (put_run g1 g).gd a2 hs
    obtain ⟨c1, c2, c3, c4⟩ := Tx.put g1 b2
    have c1 : Lie f n s.text.length [124] := c1
    have c2 : s0.text.length = s.text.length + 1 := c2
    refine ⟨?_, c3, by omega, .inl ⟨c1.b0.1, by omega⟩⟩
    rw [List.flatMap_cons]
    refine Rd.app (.cons (lex_bar c1.b0.1 c1.b0.2) ?_) a1
    rw [← c2]; exact b1
theorem body_lex {P : Wr → Nd → Option Wr} {tk : Nd → List Tk} (hr : PartRun P) (hP : PLex P tk) {t : Nd} {s s' : Wr} (h : bodyO P s t = some s') (g : Gd s) (x : Tx f n s') (ht : TerB f n s'.text.length) (hn : s'.text.length < n) : Rd f n s.text.length 0 (tkBody tk t) s'.text.length 0 ∧ Tx f n s ∧ f s.text.length ≠ 63 ∧ s.text.length ≤ s'.text.length := by
  have fin : ∀ {a b : Nat}, (Beg (f a) ∧ a < b ∨ a = b) → (f b = 41 ∨ f b = 124) → f a ≠ 63 := fun h q => by
    rcases h with ⟨h, _⟩ | h
    · exact h.2.2.1
    · rw [h]; rcases q with q | q <;> (rw [q]; decide)
  have h41 : f s'.text.length = 41 := by rcases ht with h | h; omega; exact h
  unfold bodyO at h
  unfold tkBody
  split at h
  · rename_i hk
    obtain ⟨a1, a2, a3, a4⟩ := seq_lex hr hP h g x ht.s
    rw [if_pos hk]
    exact ⟨a1, a2, fin a4 (.inl h41), a3⟩
  · rename_i hk
    rw [if_neg hk]
    split at h
    · unfold altO at h
      split at h
      · generalize t.kids = ks at *
        match ks, h with
        | y :: ys, h =>
          obtain ⟨s1, h1, h2⟩ := bind_some h
          obtain ⟨a1, a2, a3, a4⟩ := bars_lex hr hP ys s1 s' h2 (seq_run hr h1 g).gd f n x ht.s
          have q : f s1.text.length = 41 ∨ f s1.text.length = 124 := by
            rcases a4 with ⟨q, _⟩ | q
            · exact .inr q
            · rw [q]; exact .inl h41
          obtain ⟨b1, b2, b3, b4⟩ := seq_lex hr hP h1 g a2 (q.elim (fun h => .inr (.inl h)) (fun h => .inr (.inr h)))
          exact ⟨b1.app a1, b2, fin b4 q, by omega⟩
      · cases h
    · cases h
/-- A body between brackets. -/
theorem encl_lex {P : Wr → Nd → Option Wr} {tk : Nd → List Tk} (hr : PartRun P) (hP : PLex P tk) {t : Nd} {s s' : Wr} {op : ByteArray} (o : Tk) (h : enclO P op s t.kids = some s') (g : Gd s) (x : Tx f n s') (hop : ∀ s1 : Wr, s1.text.length = s.text.length + op.size → Lie f n s.text.length op.data.toList → f s1.text.length ≠ 63 → token f n s.text.length 0 = .ok (o, 0) s1.text.length) :
    Rd f n s.text.length 0 (tkEncl tk o t) s'.text.length 0 ∧ Tx f n s ∧ s.text.length < s'.text.length ∧ Lie f n s.text.length op.data.toList := by
  unfold tkEncl
  generalize t.kids = ks at *
  match ks, h with
  | [y], h =>
    simp only [enclO] at h
    obtain ⟨s1, h1, h⟩ := bind_some h
    obtain ⟨s2, h2, h3⟩ := bind_some h
    obtain ⟨c1, c2, c3, c4⟩ := Tx.leave h3 x
    have c1 : Lie f n s2.text.length [41] := c1
    obtain ⟨b1, b2, b3, b4⟩ := body_lex hr hP h2 (enter_gd h1 g).1 c3 (.inr c1.b0.1) c1.b0.2
    obtain ⟨e1, e2, e3, e4⟩ := Tx.enter h1 b2
    refine ⟨.cons (hop s1 e2 e1 b3) (b1.app (.one ?_)), e3, by omega, e1⟩
    rw [lex_close c1.b0.1 c1.b0.2, c2]; rfl
end
end Go.Proofs.YtbdediacfckpcaaGreatDoor.tre
end

section
/- The tokens of a tree's pattern: parts, and the whole. Plain mathematics. -/
set_option linter.unusedVariables false
set_option linter.unusedSimpArgs false
namespace Go.Proofs.YtbdediacfckpcaaGreatDoor.tre
open Go.RowKit nod tok

section
variable {f : Nat → Int} {n : Nat}
theorem beg_of {x : UInt8} {l : List UInt8} {a : Nat} (h : Lie f n a (x :: l)) (hx : x = 46 ∨ x = 91 ∨ x = 92 ∨ x = 40 ∨ x = 94 ∨ x = 36) : Beg (f a) := by
  rw [h.b0.1]
  rcases hx with rfl | rfl | rfl | rfl | rfl | rfl <;> (unfold Beg; decide)
theorem leaf_lex {s s' : Wr} {t : ByteArray} {T : Tk} (h : putO s t = some s') (x : Tx f n s') (hb : ∃ b l, t.data.toList = b :: l ∧ (b = 46 ∨ b = 91 ∨ b = 92 ∨ b = 40 ∨ b = 94 ∨ b = 36)) (hl : Lie f n s.text.length t.data.toList → token f n s.text.length 0 = .ok (T, 0) (s.text.length + t.size)) :
    Rd f n s.text.length 0 [T] s'.text.length 0 ∧ Tx f n s ∧ s.text.length < s'.text.length ∧ Beg (f s.text.length) := by
  obtain ⟨h1, h2, h3, h4⟩ := Tx.put h x
  obtain ⟨b, l, e, hbb⟩ := hb
  refine ⟨.one (by rw [hl h1, h2]), h3, by omega, beg_of (x := b) (l := l) (e ▸ h1) hbb⟩
theorem asrt_mode {s s' : Wr} {m : Int} (h : putO s (textP m asrtTexts) = some s') : 1 ≤ m ∧ m ≤ 10 := by
  have h0 : (textP m asrtTexts).size ≠ 0 := by intro e; unfold putO at h; rw [if_pos e] at h; cases h
  refine Decidable.byContradiction fun hc => h0 ?_
  unfold textP
  split
  · rfl
  · by_cases z : m = 0
    · subst z; rfl
    · rw [List.getElem?_eq_none (by simp [asrtTexts]; omega)]; rfl
theorem asrt_begin {m : Int} (h1 : 1 ≤ m) (h10 : m ≤ 10) : ∃ b l, (textP m asrtTexts).data.toList = b :: l ∧ (b = 46 ∨ b = 91 ∨ b = 92 ∨ b = 40 ∨ b = 94 ∨ b = 36) := by
  have hm : m = 1 ∨ m = 2 ∨ m = 3 ∨ m = 4 ∨ m = 5 ∨ m = 6 ∨ m = 7 ∨ m = 8 ∨ m = 9 ∨ m = 10 := by omega
  rcases hm with rfl | rfl | rfl | rfl | rfl | rfl | rfl | rfl | rfl | rfl <;> exact ⟨_, _, rfl, by simp⟩
theorem look_mode {pt : Wr → Nd → Option Wr} {s s' : Wr} {m : Int} {ks : List Nd} (h : enclO pt (textP m lookTexts) s ks = some s') : 0 ≤ m ∧ m ≤ 3 := by
  have h0 : (textP m lookTexts).size ≠ 0 := by
    match ks, h with
    | [y], h =>
      simp only [enclO] at h
      obtain ⟨s1, h1, _⟩ := bind_some h
      have h2 := (enterO_some h1).2
      intro e; unfold putO at h2; rw [if_pos e] at h2; cases h2
  refine Decidable.byContradiction fun hc => h0 ?_
  unfold textP
  split
  · rfl
  · rw [List.getElem?_eq_none (by simp [lookTexts]; omega)]; rfl
theorem encl_part {P : Wr → Nd → Option Wr} {tk : Nd → List Tk} (hr : PartRun P) (hP : PLex P tk) {t : Nd} {s s' : Wr} {op : ByteArray} (o : Tk) (h : enclO P op s t.kids = some s') (g : Gd s) (x : Tx f n s') (hb : ∃ l, op.data.toList = 40 :: l) (hop : Lie f n s.text.length op.data.toList → f (s.text.length + op.size) ≠ 63 → token f n s.text.length 0 = .ok (o, 0) (s.text.length + op.size)) :
    Rd f n s.text.length 0 (tkEncl tk o t) s'.text.length 0 ∧ Tx f n s ∧ s.text.length < s'.text.length ∧ Beg (f s.text.length) := by
  obtain ⟨a1, a2, a3, a4⟩ := encl_lex hr hP o h g x (fun s1 e hl hf => by rw [e] at hf ⊢; exact hop hl hf)
  obtain ⟨l, e⟩ := hb
  exact ⟨a1, a2, a3, beg_of (x := 40) (l := l) (e ▸ a4) (by simp)⟩
theorem part_lex : ∀ N : Nat, PLex (partO N) (tkPart N)
  | 0 => fun t s s' h _ => by rw [partO] at h; cases h
  | N + 1 => fun t s s' h g f n x hf => by
    rw [partO] at h
    by_cases hz : othersZ t = false
    · rw [if_pos hz] at h; cases h
    rw [if_neg hz] at h
    rw [tkPart]
    by_cases hk : t.kind = 1
    · rw [if_pos hk] at h ⊢
      have c := lex_char (f := f) (n := n) 0 h x
      obtain ⟨p1, p2, p3, p4⟩ := Tx.put h x
      exact ⟨.one c.1, p3, by omega, notO c.2⟩
    rw [if_neg hk] at h ⊢
    by_cases hk : t.kind = 2
    · rw [if_pos hk] at h ⊢
      exact leaf_lex h x ⟨_, _, rfl, by simp⟩ (fun hl => lex_dot (Lie.b0 (x := 46) (l := []) hl).1 (Lie.b0 (x := 46) (l := []) hl).2)
    rw [if_neg hk] at h ⊢
    by_cases hk : t.kind = 3
    · rw [if_pos hk] at h ⊢
      obtain ⟨a1, a2, a3, a4⟩ := class_lex (inside_lex N) h 0 x
      exact ⟨a1, a2, a3, by rw [a4]; unfold Beg; decide⟩
    rw [if_neg hk] at h ⊢
    by_cases hk : t.kind = 5
    · rw [if_pos hk] at h ⊢
      obtain ⟨a1, a2, a3, a4⟩ := prop_lex h 0 x
      exact ⟨.one a1, a2, a3, by rw [a4]; unfold Beg; decide⟩
    rw [if_neg hk] at h ⊢
    by_cases hk : t.kind = 8
    · rw [if_pos hk] at h ⊢
      unfold repeatO at h
      generalize t.kids = ks at *
      match ks, h with
      | [y], h =>
        simp only at h ⊢
        split at h
        · rename_i hc
          obtain ⟨s1, h1, h2⟩ := bind_some h
          obtain ⟨p1, p2, p3, p4⟩ := Tx.put h2 x
          rw [data_app] at p1
          have hlen : s'.text.length = s1.text.length + (timesT t.a t.b).data.toList.length + (textP t.mode modeTexts).size := by
            rw [p2, ByteArray.size_append, show (timesT t.a t.b).data.toList.length = (timesT t.a t.b).size from Array.length_toList]; omega
          have hfol := hf (by rw [hk]; decide)
          rw [hlen] at hfol
          have hR := lex_rep hc.2.2.2 hc.2.1 hc.2.2.1 p1 hfol
          obtain ⟨a1, a2, a3, a4⟩ := part_lex N y s s1 h1 g f n p3 (fun e => by rw [hc.1] at e; cases e)
          refine ⟨a1.app (.one (by rw [hR, hlen])), a2, by omega, a4⟩
        · cases h
    rw [if_neg hk] at h ⊢
    by_cases hk : t.kind = 9
    · rw [if_pos hk] at h ⊢
      unfold groupO at h
      by_cases g1 : t.a = 0 ∧ t.name.size = 0
      · rw [if_pos g1] at h
        rw [if_pos g1.1]
        exact encl_part (part_run N) (part_lex N) _ h g x ⟨_, rfl⟩ (fun hl _ => lex_open2 (c := 58) hl (.inl ⟨rfl, rfl⟩))
      rw [if_neg g1] at h
      by_cases g2 : t.a ≠ s.groups + 1 ∨ 20 < t.a
      · rw [if_pos g2] at h; cases h
      rw [if_neg g2] at h
      have ha : ¬ t.a = 0 := by have := g.g.g0; omega
      rw [if_neg ha]
      by_cases g3 : t.name.size = 0
      · rw [if_pos g3] at h
        rw [if_pos g3]
        exact encl_part (s := s.grp) (part_run N) (part_lex N) _ h (grp_gd g (by omega)) x ⟨_, rfl⟩ (fun hl hq => lex_open (Lie.b0 (x := 40) (l := []) hl).1 (Lie.b0 (x := 40) (l := []) hl).2 hq)
      rw [if_neg g3] at h
      rw [if_neg g3]
      split at h
      · rename_i hc
        have hk := nameOk_of hc.1 g3
        exact encl_part (s := s.grp.nam t.name) (part_run N) (part_lex N) _ h (nam_gd g (by omega) _) x ⟨_, by unfold openN; rw [data_app, data_app]; rfl⟩ (fun hl _ => lex_named hk hl)
      · cases h
    rw [if_neg hk] at h ⊢
    by_cases hk : t.kind = 10
    · rw [if_pos hk] at h ⊢
      have hm := look_mode h
      refine encl_part (part_run N) (part_lex N) _ h g x ?_ (fun hl _ => lex_look hm.1 hm.2 hl)
      have hq : t.mode = 0 ∨ t.mode = 1 ∨ t.mode = 2 ∨ t.mode = 3 := by omega
      rcases hq with q | q | q | q <;> (rw [q]; exact ⟨_, rfl⟩)
    rw [if_neg hk] at h ⊢
    by_cases hk : t.kind = 11
    · rw [if_pos hk] at h ⊢
      exact encl_part (part_run N) (part_lex N) _ h g x ⟨_, rfl⟩ (fun hl _ => lex_open2 (c := 62) hl (.inr (.inr (.inr ⟨rfl, rfl⟩))))
    rw [if_neg hk] at h ⊢
    by_cases hk : t.kind = 12
    · rw [if_pos hk] at h ⊢
      have hm := asrt_mode h
      have hp := (Tx.put h x).2.1
      exact leaf_lex h x (asrt_begin hm.1 hm.2) (fun hl => lex_asrt hm.1 hm.2 hl (by rw [← hp]; exact hf (by rw [hk]; decide)))
    rw [if_neg hk] at h ⊢
    by_cases hk : t.kind = 13
    · rw [if_pos hk] at h ⊢
      by_cases hc : 0 < t.a ∧ t.a ≤ s.groups
      · rw [if_pos hc] at h
        have g20 := g.g.g1
        obtain ⟨v, hv⟩ : ∃ v : Nat, t.a = v := ⟨t.a.toNat, by omega⟩
        rw [hv] at h ⊢
        exact leaf_lex h x ⟨92, _, by unfold backT; rw [data_app, data_app]; rfl, by simp⟩ (fun hl => lex_back (by omega) (by omega) hl)
      · rw [if_neg hc] at h; cases h
    rw [if_neg hk] at h ⊢
    by_cases hk : t.kind = 14
    · rw [if_pos hk] at h
      exact leaf_lex h x ⟨_, _, rfl, by simp⟩ (fun hl => lex_X hl)
    rw [if_neg hk] at h
    cases h
/-- A token without its place. -/
def bareT (t : Tk) : Tk := { t with s := 0, e := 0 }
theorem rd_scan {a k b k2 : Nat} {Ts : List Tk} (h : Rd f n a k Ts b k2) (hb : b = n) : a ≤ n → (scanA f n a k).2 = (0, 0) ∧ (scanA f n a k).1.map bareT = Ts.map bareT := by
  induction h with
  | nil a k => intro _; subst hb; rw [scanA_end]; exact ⟨rfl, rfl⟩
  | cons h r ih =>
    rename_i a k a1 k1 b k2 T Ts
    intro ha
    have hv := token_val f n h ha
    have han : a < n := by omega
    obtain ⟨i1, i2⟩ := ih hb hv.2.1
    rw [scanA_ok f n h han]
    refine ⟨i1, ?_⟩
    simp only [List.map_cons, i2]
    rfl
/-- Tokens are told by the text alone. -/
theorem rd_one {a k b b' k2 k2' : Nat} {Ts Us : List Tk} (h : Rd f n a k Ts b k2) (hb : b = n) (ha : a ≤ n) (h' : Rd f n a k Us b' k2') (hb' : b' = n) : Ts = Us := by
  induction h generalizing Us with
  | nil a k =>
    subst hb
    cases h' with
    | nil => rfl
    | cons g r => have := token_val f _ g ha; omega
  | cons g r ih =>
    have hv := token_val f n g ha
    cases h' with
    | nil => omega
    | cons g' r' =>
      rw [g] at g'
      cases g'
      rw [ih hb hv.2.1 r']
/-- A whole body, up to the text's end. -/
theorem body_top {P : Wr → Nd → Option Wr} {tk : Nd → List Tk} (hr : PartRun P) (hP : PLex P tk) {t : Nd} {s s' : Wr} (h : bodyO P s t = some s') (g : Gd s) (x : Tx f n s') (hn : n ≤ s'.text.length) : Rd f n s.text.length 0 (tkBody tk t) s'.text.length 0 := by
  unfold bodyO at h
  unfold tkBody
  split at h
  · rename_i hk
    rw [if_pos hk]
    exact (seq_lex hr hP h g x (.inl hn)).1
  · rename_i hk
    rw [if_neg hk]
    split at h
    · unfold altO at h
      split at h
      · generalize t.kids = ks at *
        match ks, h with
        | y :: ys, h =>
          obtain ⟨s1, h1, h2⟩ := bind_some h
          obtain ⟨a1, a2, a3, a4⟩ := bars_lex hr hP ys s1 s' h2 (seq_run hr h1 g).gd f n x (.inl hn)
          have q : TerS f n s1.text.length := by
            rcases a4 with ⟨q, _⟩ | q
            · exact .inr (.inr q)
            · exact .inl (by rw [q]; exact hn)
          exact (seq_lex hr hP h1 g a2 q).1.app a1
      · cases h
    · cases h
/-- The tokens of a tree's pattern. -/
theorem pat_rd {N : Nat} {t : Nd} {l : List UInt8} (h : patO N t = some l) : Rd (sfB ⟨l.toArray⟩) l.length 0 0 (tkBody (tkPart N) t) l.length 0 := by
  unfold patO at h
  obtain ⟨s', h1, rfl⟩ := Option.map_eq_some_iff.1 h
  have hx : Tx (sfB ⟨s'.text.toArray⟩) s'.text.length s' := by
    have := sfB_lie ⟨s'.text.toArray⟩
    exact this
  exact body_top (s := w00) (part_run N) (part_lex N) h1 gd00 hx (Nat.le_refl _)
theorem pat_scan {N : Nat} {t : Nd} {l : List UInt8} (h : patO N t = some l) : (scanL (sfB ⟨l.toArray⟩) l.length).2 = (0, 0) ∧ (scanL (sfB ⟨l.toArray⟩) l.length).1.map bareT = (tkBody (tkPart N) t).map bareT := by
  have hl := (pat_bounds h).1
  rw [scanL_A _ _ hl]
  exact rd_scan (pat_rd h) rfl (Nat.zero_le _)
/-- Trees with one pattern have the same tokens. -/
theorem pat_tokens {N : Nat} {t u : Nd} {l : List UInt8} (h : patO N t = some l) (h' : patO N u = some l) : tkBody (tkPart N) t = tkBody (tkPart N) u :=
  rd_one (pat_rd h) rfl (Nat.zero_le _) (pat_rd h') rfl
end
end Go.Proofs.YtbdediacfckpcaaGreatDoor.tre
end
