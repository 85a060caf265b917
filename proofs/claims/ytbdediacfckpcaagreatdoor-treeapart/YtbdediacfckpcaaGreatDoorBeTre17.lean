/- Texts that the proof leans on, one behind the other. -/
import Derived.Test.YtbdediacfckpcaaGreatDoorBeTre16

section
/- A class's tokens tell the class. Plain mathematics. -/
set_option linter.unusedVariables false
set_option linter.unusedSimpArgs false
namespace Go.Proofs.YtbdediacfckpcaaGreatDoor.tre
open Go.RowKit nod tok

theorem empty_name {n : ByteArray} (h : n.toList.isEmpty = true) : n = ByteArray.empty := by
  have h0 : n.size = 0 := by
    by_cases c : n.size = 0
    · exact c
    · rw [lin.isEmpty_not c] at h; cases h
  obtain ⟨d⟩ := n
  have : d = #[] := Array.eq_empty_of_size_eq_zero h0
  rw [this]; rfl
theorem nomay {t : Nd} {k f : Int} {P : Prop} (hk : t.kind = k) (h : may k f = false) (g : may t.kind f = true) : P := by rw [hk, h] at g; cases g
/-- Two nodes of one kind with the same fields, of those that the kind has, and no others. -/
theorem shape_eq {t u : Nd} (ht : othersZ t = true) (hu : othersZ u = true) (hk : t.kind = u.kind) (h1 : may t.kind 1 = true → t.mode = u.mode) (h2 : may t.kind 2 = true → t.a = u.a) (h4 : may t.kind 4 = true → t.b = u.b) (h8 : may t.kind 8 = true → t.neg = u.neg) (h16 : may t.kind 16 = true → t.name = u.name) (h32 : may t.kind 32 = true → t.kids = u.kids) : t = u := by
  obtain ⟨k, m, a, b, g, n, s, ks⟩ := t
  obtain ⟨k', m', a', b', g', n', s', ks'⟩ := u
  simp only [Nd.kind] at hk; subst hk
  simp only [Nd.kind, Nd.mode, Nd.a, Nd.b, Nd.neg, Nd.name, Nd.kids] at h1 h2 h4 h8 h16 h32
  simp only [othersZ, Bool.and_eq_true, Bool.or_eq_true, beq_iff_eq, Bool.not_eq_true', List.isEmpty_iff] at ht hu
  obtain ⟨⟨⟨⟨⟨⟨p0, p1⟩, p2⟩, p4⟩, p8⟩, p16⟩, p32⟩ := ht
  obtain ⟨⟨⟨⟨⟨⟨q0, q1⟩, q2⟩, q4⟩, q8⟩, q16⟩, q32⟩ := hu
  have e0 : s = s' := p0.trans q0.symm
  have e1 : m = m' := by cases hc : may k 1 with | true => exact h1 hc | false => rw [hc] at p1 q1; simp at p1 q1; rw [p1, q1]
  have e2 : a = a' := by cases hc : may k 2 with | true => exact h2 hc | false => rw [hc] at p2 q2; simp at p2 q2; rw [p2, q2]
  have e4 : b = b' := by cases hc : may k 4 with | true => exact h4 hc | false => rw [hc] at p4 q4; simp at p4 q4; rw [p4, q4]
  have e8 : g = g' := by cases hc : may k 8 with | true => exact h8 hc | false => rw [hc] at p8 q8; simp at p8 q8; rw [p8, q8]
  have e16 : n = n' := by
    cases hc : may k 16 with
    | true => exact h16 hc
    | false =>
      rw [hc] at p16 q16
      rw [empty_name (n := n) (p16.elim (fun h => by rw [h]; rfl) (fun h => by cases h)), empty_name (n := n') (q16.elim (fun h => by rw [h]; rfl) (fun h => by cases h))]
  have e32 : ks = ks' := by cases hc : may k 32 with | true => exact h32 hc | false => rw [hc] at p32 q32; simp at p32 q32; rw [p32, q32]
  subst e0; subst e1; subst e2; subst e4; subst e8; subst e16; subst e32; rfl

def MemOk (x : Nd) (a : List Tk) : Prop := ∃ N s s', memberO (insideO N) s x = some s' ∧ a = tkMem (tkIns N) x
def InsOk (t : Nd) (a : List Tk) : Prop := ∃ N s s', insideO N s t = some s' ∧ a = tkIns N t
inductive MemsOk : List Nd → List Tk → Prop
  | nil : MemsOk [] []
  | cons {x : Nd} {a : List Tk} {ks : List Nd} {b : List Tk} : MemOk x a → MemsOk ks b → MemsOk (x :: ks) (a ++ b)
theorem mems_of {N : Nat} : ∀ (ks : List Nd) (s s' : Wr), loopO (memberO (insideO N)) ks s = some s' → MemsOk ks (ks.flatMap (tkMem (tkIns N)))
  | [], _, _, _ => .nil
  | x :: ks, s, s', h => by
    rw [loopO] at h
    obtain ⟨s1, h1, h2⟩ := bind_some h
    rw [List.flatMap_cons]
    exact .cons ⟨N, s, s1, h1, rfl⟩ (mems_of ks s1 s' h2)
theorem mem_inv {x : Nd} {a : List Tk} (h : MemOk x a) : othersZ x = true ∧ ((x.kind = 1 ∧ a = [char x.a]) ∨ (x.kind = 4 ∧ a = [char x.a, bare 13, char x.b]) ∨ (x.kind = 5 ∧ a = [prop x.name.data.toList x.neg]) ∨ (x.kind = 3 ∧ ∃ b, InsOk x b ∧ a = classT x.neg :: (b ++ [bare 12]))) := by
  obtain ⟨N, s, s', h, rfl⟩ := h
  unfold memberO at h
  split at h
  · cases h
  rename_i ho
  refine ⟨by simpa using ho, ?_⟩
  split at h
  · rename_i hk; exact .inl ⟨hk, by unfold tkMem; rw [if_pos hk]⟩
  rename_i h1
  split at h
  · rename_i hk; exact .inr (.inl ⟨hk, by unfold tkMem; rw [if_neg h1, if_pos hk]⟩)
  rename_i h4
  split at h
  · rename_i hk; exact .inr (.inr (.inl ⟨hk, by unfold tkMem; rw [if_neg h1, if_neg h4, if_pos hk]⟩))
  rename_i h5
  split at h
  · rename_i hk
    unfold classO at h
    obtain ⟨s1, c1, h⟩ := bind_some h
    obtain ⟨s2, c2, c3⟩ := bind_some h
    exact .inr (.inr (.inr ⟨hk, tkIns N x, ⟨N, s1, s2, c2, rfl⟩, by unfold tkMem; rw [if_neg h1, if_neg h4, if_neg h5]⟩))
  · cases h
/-- What stands behind members. -/
def TermC (X : List Tk) : Prop := ∃ T l, X = T :: l ∧ (T.kind = 12 ∨ T.kind = 14)
def N13 (X : List Tk) : Prop := ∀ T l, X = T :: l → T.kind ≠ 13
theorem TermC.n13 {X : List Tk} (h : TermC X) : N13 X := by
  obtain ⟨T, l, rfl, h⟩ := h
  intro T' l' e
  cases e
  omega
theorem mem_head {x : Nd} {a : List Tk} (h : MemOk x a) : ∃ T l, a = T :: l ∧ (T.kind = 1 ∨ T.kind = 8 ∨ T.kind = 11) := by
  obtain ⟨_, ⟨_, rfl⟩ | ⟨_, rfl⟩ | ⟨_, rfl⟩ | ⟨_, b, _, rfl⟩⟩ := mem_inv h
  · exact ⟨_, _, rfl, .inl rfl⟩
  · exact ⟨_, _, rfl, .inl rfl⟩
  · exact ⟨_, _, rfl, .inr (.inl rfl)⟩
  · exact ⟨_, _, rfl, .inr (.inr rfl)⟩
theorem mems_n13 {ks : List Nd} {b X : List Tk} (h : MemsOk ks b) (t : TermC X) : N13 (b ++ X) := by
  cases h with
  | nil => exact t.n13
  | cons hx hk =>
    obtain ⟨T, l, rfl, hT⟩ := mem_head hx
    intro T' l' e
    simp only [List.cons_append] at e
    cases e
    omega
/-- What a class's tokens tell, up to so many. -/
def InsU (L : Nat) : Prop := ∀ (t u : Nd) (a b X Y : List Tk), a.length < L → InsOk t a → InsOk u b → a ++ bare 12 :: X = b ++ bare 12 :: Y → t.mode = u.mode ∧ t.kids = u.kids ∧ X = Y
theorem mem_u {L : Nat} (IH : InsU L) {x y : Nd} {a b X Y : List Tk} (hl : a.length ≤ L) (hx : MemOk x a) (hy : MemOk y b) (nX : N13 X) (nY : N13 Y) (e : a ++ X = b ++ Y) : x = y ∧ X = Y := by
  obtain ⟨ox, hx⟩ := mem_inv hx
  obtain ⟨oy, hy⟩ := mem_inv hy
  rcases hx with ⟨kx, rfl⟩ | ⟨kx, rfl⟩ | ⟨kx, rfl⟩ | ⟨kx, c, ic, rfl⟩ <;> rcases hy with ⟨ky, rfl⟩ | ⟨ky, rfl⟩ | ⟨ky, rfl⟩ | ⟨ky, d, id, rfl⟩
  · simp only [List.cons_append, List.nil_append, List.cons.injEq] at e
    obtain ⟨e1, e2⟩ := e
    have ea : x.a = y.a := congrArg Tk.a e1
    exact ⟨shape_eq ox oy (kx.trans ky.symm) (nomay kx (by decide +kernel)) (fun _ => ea) (nomay kx (by decide +kernel)) (nomay kx (by decide +kernel)) (nomay kx (by decide +kernel)) (nomay kx (by decide +kernel)), e2⟩
  · simp only [List.cons_append, List.nil_append, List.cons.injEq] at e
    exact absurd rfl (nX _ _ e.2)
  · simp [char, prop] at e
  · simp [char, classT] at e
  · simp only [List.cons_append, List.nil_append, List.cons.injEq] at e
    exact absurd rfl (nY _ _ e.2.symm)
  · simp only [List.cons_append, List.nil_append, List.cons.injEq] at e
    obtain ⟨e1, _, e3, e4⟩ := e
    have ea : x.a = y.a := congrArg Tk.a e1
    have eb : x.b = y.b := congrArg Tk.a e3
    exact ⟨shape_eq ox oy (kx.trans ky.symm) (nomay kx (by decide +kernel)) (fun _ => ea) (fun _ => eb) (nomay kx (by decide +kernel)) (nomay kx (by decide +kernel)) (nomay kx (by decide +kernel)), e4⟩
  · simp [char, prop] at e
  · simp [char, classT] at e
  · simp [char, prop] at e
  · simp [char, prop] at e
  · simp only [List.cons_append, List.nil_append, List.cons.injEq] at e
    obtain ⟨e1, e2⟩ := e
    have en : x.name.data.toList = y.name.data.toList := congrArg Tk.name e1
    have eg : x.neg = y.neg := congrArg Tk.neg e1
    have en : x.name = y.name := by rw [← ba_data x.name, ← ba_data y.name, en]
    exact ⟨shape_eq ox oy (kx.trans ky.symm) (nomay kx (by decide +kernel)) (nomay kx (by decide +kernel)) (nomay kx (by decide +kernel)) (fun _ => eg) (fun _ => en) (nomay kx (by decide +kernel)), e2⟩
  · simp [classT, prop] at e
  · simp [char, classT] at e
  · simp [char, classT] at e
  · simp [classT, prop] at e
  · simp only [List.cons_append, List.append_assoc, List.nil_append, List.cons.injEq] at e
    obtain ⟨e1, e2⟩ := e
    have eg : x.neg = y.neg := congrArg Tk.neg e1
    obtain ⟨em, ek, eX⟩ := IH x y c d X Y (by simp at hl; omega) ic id e2
    exact ⟨shape_eq ox oy (kx.trans ky.symm) (fun _ => em) (nomay kx (by decide +kernel)) (nomay kx (by decide +kernel)) (fun _ => eg) (nomay kx (by decide +kernel)) (fun _ => ek), eX⟩
theorem term_head {x : Nd} {a X Y : List Tk} (h : MemOk x a) (t : TermC X) (e : X = a ++ Y) : False := by
  obtain ⟨T, l, rfl, hT⟩ := mem_head h
  obtain ⟨T', l', rfl, hT'⟩ := t
  simp only [List.cons_append] at e
  cases e
  omega
theorem mems_u {L : Nat} (IH : InsU L) {ks : List Nd} {a : List Tk} (hx : MemsOk ks a) : ∀ {ls : List Nd} {b X Y : List Tk}, a.length ≤ L → MemsOk ls b → TermC X → TermC Y → a ++ X = b ++ Y → ks = ls ∧ X = Y := by
  induction hx with
  | nil =>
    intro ls b X Y hl hy tX tY e
    cases hy with
    | nil => exact ⟨rfl, e⟩
    | cons h1 h2 => rw [List.append_assoc] at e; exact (term_head h1 tX e).elim
  | cons h1 h2 ih =>
    intro ls b X Y hl hy tX tY e
    cases hy with
    | nil => rw [List.append_assoc] at e; exact (term_head h1 tY e.symm).elim
    | cons g1 g2 =>
      rw [List.append_assoc, List.append_assoc] at e
      rw [List.length_append] at hl
      obtain ⟨rfl, e2⟩ := mem_u IH (by omega) h1 g1 (mems_n13 h2 tX) (mems_n13 g2 tY) e
      obtain ⟨rfl, e3⟩ := ih (by omega) g2 tX tY e2
      exact ⟨rfl, e3⟩
/-- Further operands. -/
inductive Prs : List (Int × List Nd) → List Tk → Prop
  | nil : Prs [] []
  | cons {m : Int} {ks : List Nd} {b : List Tk} {ps : List (Int × List Nd)} {c : List Tk} : MemsOk ks b → Prs ps c → Prs ((m, ks) :: ps) (setT m :: (b ++ c))
theorem prs_term {ps : List (Int × List Nd)} {c X : List Tk} (h : Prs ps c) : TermC (c ++ bare 12 :: X) := by
  cases h with
  | nil => exact ⟨_, _, rfl, .inl rfl⟩
  | cons _ _ => exact ⟨_, _, rfl, .inr rfl⟩
theorem prs_snoc {m : Int} {ks : List Nd} {b : List Tk} (hb : MemsOk ks b) {ps : List (Int × List Nd)} {c : List Tk} (h : Prs ps c) : Prs (ps ++ [(m, ks)]) (c ++ setT m :: b) := by
  induction h with
  | nil => have := Prs.cons (m := m) hb .nil; rwa [List.append_nil] at this
  | cons h1 h2 ih =>
    rw [List.cons_append, List.cons_append, List.append_assoc]
    exact .cons h1 ih
theorem prs_u {L : Nat} (IH : InsU L) {ps : List (Int × List Nd)} {a : List Tk} (hx : Prs ps a) : ∀ {qs : List (Int × List Nd)} {b X Y : List Tk}, a.length ≤ L → Prs qs b → a ++ bare 12 :: X = b ++ bare 12 :: Y → ps = qs ∧ X = Y := by
  induction hx with
  | nil =>
    intro qs b X Y hl hy e
    cases hy with
    | nil => simp only [List.nil_append, List.cons.injEq] at e; exact ⟨rfl, e.2⟩
    | cons h1 h2 => simp [bare, setT] at e
  | cons h1 h2 ih =>
    intro qs b X Y hl hy e
    cases hy with
    | nil => simp [bare, setT] at e
    | cons g1 g2 =>
      simp only [List.cons_append, List.append_assoc, List.cons.injEq] at e
      rw [List.length_cons, List.length_append] at hl
      obtain ⟨e1, e2⟩ := e
      have em := congrArg Tk.mode e1
      simp only [setT] at em
      obtain ⟨rfl, e3⟩ := mems_u IH h1 (by omega) g1 (prs_term h2) (prs_term g2) e2
      obtain ⟨rfl, e4⟩ := ih (by omega) g2 e3
      rw [em]
      exact ⟨rfl, e4⟩
/-- A side of a class. -/
def sideN (p : Int × List Nd) : Nd := .mk 3 p.1 0 0 false ByteArray.empty [] p.2
def stepI (p : Int × List Nd) (q : Int × List Nd) : Int × List Nd := (q.1, [sideN p, sideN (0, q.2)])
theorem side_is {l : Nd} (h : sideB l = true) : l = sideN (l.mode, l.kids) := by
  have hs : l.kind = 3 ∧ l.neg = false ∧ othersZ l = true := by
    obtain ⟨k, m, a, b, g, n, s, ks⟩ := l
    simp only [sideB, Bool.and_eq_true, beq_iff_eq, Bool.not_eq_true'] at h
    exact ⟨h.1.1, h.1.2, h.2⟩
  refine shape_eq hs.2.2 ?_ hs.1 (fun _ => rfl) ?_ ?_ (fun _ => hs.2.1) ?_ (fun _ => rfl)
  · have h1 : may 3 1 = true := by decide +kernel
    have h2 : may 3 32 = true := by decide +kernel
    have h3 : ByteArray.empty.toList.isEmpty = true := by decide +kernel
    simp [sideN, othersZ, h1, h2, h3]
  all_goals exact nomay hs.1 (by decide +kernel)
theorem spine : ∀ (N : Nat) (t : Nd) (s s' : Wr), insideO N s t = some s' → ∃ ks ps b c, MemsOk ks b ∧ Prs ps c ∧ tkIns N t = b ++ c ∧ (t.mode, t.kids) = ps.foldl stepI (0, ks)
  | 0, t, s, s', h => by rw [insideO] at h; cases h
  | N + 1, t, s, s', h => by
    rw [insideO] at h
    split at h
    · rename_i hm
      split at h
      · cases h
      · refine ⟨t.kids, [], _, [], mems_of t.kids s s' h, .nil, ?_, by rw [hm]; rfl⟩
        rw [tkIns, if_pos hm, List.append_nil]
    · rename_i hm
      split at h
      · unfold sidesO at h
        split at h
        · rename_i l r hk
          split at h
          · rename_i hc
            obtain ⟨s1, h1, h2⟩ := bind_some h
            obtain ⟨ks, ps, b, c, p1, p2, p3, p4⟩ := spine N l _ _ h1
            have hr : MemsOk r.kids (tkIns N r) := by
              cases N with
              | zero => rw [insideO] at h2; cases h2
              | succ N =>
                rw [insideO, if_pos hc.2.2.1] at h2
                split at h2
                · cases h2
                · rw [tkIns, if_pos hc.2.2.1]; exact mems_of _ _ _ h2
            refine ⟨ks, ps ++ [(t.mode, r.kids)], b, _, p1, prs_snoc hr p2, ?_, ?_⟩
            · rw [tkIns, if_neg hm, hk, ← List.append_assoc, ← p3]
            · rw [List.foldl_append, ← p4]
              have er := side_is hc.2.1
              rw [hc.2.2.1] at er
              show _ = (t.mode, [sideN (l.mode, l.kids), sideN (0, r.kids)])
              rw [← side_is hc.1, ← er, hk]
          · cases h
        · cases h
      · cases h
theorem ins_u : ∀ L : Nat, InsU L := by
  intro L
  induction L with
  | zero => intro t u a b X Y h; omega
  | succ L IH =>
    intro t u a b X Y hl ⟨N, s, s', h, ea⟩ ⟨M, r, r', g, eb⟩ e
    obtain ⟨ks, ps, b1, c1, p1, p2, p3, p4⟩ := spine N t s s' h
    obtain ⟨ls, qs, b2, c2, q1, q2, q3, q4⟩ := spine M u r r' g
    rw [ea, eb, p3, q3, List.append_assoc, List.append_assoc] at e
    rw [ea, p3, List.length_append] at hl
    obtain ⟨rfl, e2⟩ := mems_u IH p1 (by omega) q1 (prs_term p2) (prs_term q2) e
    obtain ⟨rfl, e3⟩ := prs_u IH p2 (by omega) q2 e2
    rw [← q4] at p4
    exact ⟨congrArg Prod.fst p4, congrArg Prod.snd p4, e3⟩
end Go.Proofs.YtbdediacfckpcaaGreatDoor.tre
end

section
/- A pattern's tokens tell its tree. Plain mathematics. -/
set_option linter.unusedVariables false
set_option linter.unusedSimpArgs false
namespace Go.Proofs.YtbdediacfckpcaaGreatDoor.tre
open Go.RowKit nod tok

def PartOk (g : Int) (t : Nd) (a : List Tk) : Prop := ∃ N s s', partO N s t = some s' ∧ Gd s ∧ s.groups = g ∧ a = tkPart N t
inductive PartsOk : Int → List Nd → List Tk → Prop
  | nil {g : Int} : PartsOk g [] []
  | cons {g : Int} {x : Nd} {a : List Tk} {ks : List Nd} {b : List Tk} : PartOk g x a → PartsOk (g + grpN x) ks b → PartsOk g (x :: ks) (a ++ b)
def SeqOk (g : Int) (t : Nd) (a : List Tk) : Prop := t.kind = 6 ∧ othersZ t = true ∧ PartsOk g t.kids a
inductive BarsOk : Int → List Nd → List Tk → Prop
  | nil {g : Int} : BarsOk g [] []
  | cons {g : Int} {x : Nd} {a : List Tk} {ks : List Nd} {b : List Tk} : SeqOk g x a → BarsOk (g + grpN x) ks b → BarsOk g (x :: ks) (bare 5 :: (a ++ b))
def BodyOk (g : Int) (t : Nd) (a : List Tk) : Prop := SeqOk g t a ∨ (t.kind = 7 ∧ othersZ t = true ∧ ∃ x y ks b c, t.kids = x :: y :: ks ∧ SeqOk g x b ∧ BarsOk (g + grpN x) (y :: ks) c ∧ a = b ++ c)
def EnclOk (g : Int) (t : Nd) (o : Tk) (a : List Tk) : Prop := ∃ x b, t.kids = [x] ∧ BodyOk g x b ∧ a = o :: (b ++ [bare 4])
def GroupOk (g : Int) (t : Nd) (a : List Tk) : Prop := ∃ g' o, EnclOk g' t o a ∧ ((t.a = 0 ∧ t.name.size = 0 ∧ g' = g ∧ o = opening 1) ∨ (t.a = g + 1 ∧ t.name.size = 0 ∧ g' = g + 1 ∧ o = opening 0) ∨ (t.a = g + 1 ∧ g' = g + 1 ∧ o = ⟨3, 2, 0, 0, t.name.data.toList, false, 0, 0⟩))
def Simple (g : Int) (t : Nd) (a : List Tk) : Prop :=
  (t.kind = 1 ∧ a = [char t.a]) ∨ (t.kind = 2 ∧ a = [bare 2]) ∨ (t.kind = 3 ∧ ∃ b, InsOk t b ∧ a = classT t.neg :: (b ++ [bare 12])) ∨ (t.kind = 5 ∧ a = [prop t.name.data.toList t.neg]) ∨ (t.kind = 9 ∧ GroupOk g t a)
  ∨ (t.kind = 10 ∧ 0 ≤ t.mode ∧ t.mode ≤ 3 ∧ EnclOk g t (opening (t.mode + 3)) a) ∨ (t.kind = 11 ∧ EnclOk g t (opening 7) a) ∨ (t.kind = 12 ∧ a = [asrt t.mode]) ∨ (t.kind = 13 ∧ a = [⟨9, 0, t.a, 0, [], false, 0, 0⟩]) ∨ (t.kind = 14 ∧ a = [bare 10])
section
variable {N : Nat}
theorem parts_of : ∀ (ks : List Nd) (s s' : Wr), loopO (partO N) ks s = some s' → Gd s → PartsOk s.groups ks (ks.flatMap (tkPart N))
  | [], _, _, _, _ => .nil
  | x :: ks, s, s', h, g => by
    rw [loopO] at h
    obtain ⟨s1, h1, h2⟩ := bind_some h
    have r := part_run N x s s1 h1 g
    rw [List.flatMap_cons]
    have := parts_of ks s1 s' h2 r.gd
    rw [r.grp] at this
    exact .cons ⟨N, s, s1, h1, g, rfl, rfl⟩ this
theorem seq_of {t : Nd} {s s' : Wr} (h : seqO (partO N) s t = some s') (g : Gd s) : SeqOk s.groups t (tkSeq (tkPart N) t) := by
  unfold seqO at h
  split at h
  · rename_i hk
    exact ⟨hk.1, hk.2, parts_of t.kids s s' h g⟩
  · cases h
theorem bars_of : ∀ (ks : List Nd) (s s' : Wr), loopO (barO (partO N)) ks s = some s' → Gd s → BarsOk s.groups ks (ks.flatMap fun y => bare 5 :: tkSeq (tkPart N) y)
  | [], _, _, _, _ => .nil
  | x :: ks, s, s', h, g => by
    rw [loopO] at h
    obtain ⟨s1, h1, h2⟩ := bind_some h
    have r := bar_run (part_run N) x s s1 h1 g
    have := bars_of ks s1 s' h2 r.gd
    rw [r.grp] at this
    unfold barO at h1
    obtain ⟨s2, h3, h4⟩ := bind_some h1
    have r2 := put_run h3 g
    have q := seq_of h4 r2.gd
    rw [r2.grp, Int.add_zero] at q
    rw [List.flatMap_cons]
    exact .cons q this
theorem body_of {t : Nd} {s s' : Wr} (h : bodyO (partO N) s t = some s') (g : Gd s) : BodyOk s.groups t (tkBody (tkPart N) t) := by
  unfold bodyO at h
  unfold tkBody
  split at h
  · rename_i hk
    rw [if_pos hk]; exact .inl (seq_of h g)
  rename_i h6
  split at h
  · rename_i hk
    unfold altO at h
    split at h
    · rename_i hc
      split at h
      · rename_i x xs hks
        obtain ⟨s1, h1, h2⟩ := bind_some h
        have r1 := seq_run (part_run N) h1 g
        have q := bars_of xs s1 s' h2 r1.gd
        rw [r1.grp] at q
        rw [if_neg h6, hks]
        match xs, hks, q with
        | [], hks, _ => rw [hks] at hc; simp at hc
        | y :: ys, hks, q => exact .inr ⟨hk, hc.1, x, y, ys, _, _, hks, seq_of h1 g, q, rfl⟩
      · cases h
    · cases h
  · cases h
theorem encl_of {t : Nd} {s s' : Wr} {op : ByteArray} (o : Tk) (h : enclO (partO N) op s t.kids = some s') (g : Gd s) : EnclOk s.groups t o (tkEncl (tkPart N) o t) := by
  unfold tkEncl
  match hk : t.kids, h with
  | [x], h =>
    simp only [enclO] at h
    obtain ⟨s1, h1, h⟩ := bind_some h
    obtain ⟨s2, h2, h3⟩ := bind_some h
    have e := enter_gd h1 g
    have q := body_of h2 e.1
    have eg : s1.groups = s.groups := by
      obtain ⟨rfl, _⟩ := putO_some (enterO_some h1).2
      rfl
    rw [eg] at q
    exact ⟨x, _, hk, q, rfl⟩
theorem part_inv {g : Int} {t : Nd} {a : List Tk} (h : PartOk g t a) : othersZ t = true ∧ (Simple g t a ∨ (t.kind = 8 ∧ ∃ x c, t.kids = [x] ∧ repB x.kind = true ∧ PartOk g x c ∧ a = c ++ [⟨6, t.mode, t.a, t.b, [], false, 0, 0⟩])) := by
  obtain ⟨N, s, s', h, gd, rfl, rfl⟩ := h
  cases N with
  | zero => rw [partO] at h; cases h
  | succ N =>
    rw [partO] at h
    rw [tkPart]
    by_cases ho : othersZ t = false
    · rw [if_pos ho] at h; cases h
    rw [if_neg ho] at h
    refine ⟨by simpa using ho, ?_⟩
    by_cases k1 : t.kind = 1
    · rw [if_pos k1]; exact .inl (.inl ⟨k1, rfl⟩)
    rw [if_neg k1] at h ⊢
    by_cases k2 : t.kind = 2
    · rw [if_pos k2]; exact .inl (.inr (.inl ⟨k2, rfl⟩))
    rw [if_neg k2] at h ⊢
    by_cases k3 : t.kind = 3
    · rw [if_pos k3] at h ⊢
      unfold classO at h
      obtain ⟨s1, c1, h⟩ := bind_some h
      obtain ⟨s2, c2, c3⟩ := bind_some h
      exact .inl (.inr (.inr (.inl ⟨k3, _, ⟨N, s1, s2, c2, rfl⟩, rfl⟩)))
    rw [if_neg k3] at h ⊢
    by_cases k5 : t.kind = 5
    · rw [if_pos k5]; exact .inl (.inr (.inr (.inr (.inl ⟨k5, rfl⟩))))
    rw [if_neg k5] at h ⊢
    by_cases k8 : t.kind = 8
    · rw [if_pos k8] at h ⊢
      unfold repeatO at h
      split at h
      · rename_i x hx
        split at h
        · rename_i hc
          obtain ⟨s1, h1, h2⟩ := bind_some h
          exact .inr ⟨k8, x, tkPart N x, hx, hc.1, ⟨N, s, s1, h1, gd, rfl, rfl⟩, by rw [hx]⟩
        · cases h
      · cases h
    rw [if_neg k8] at h ⊢
    by_cases k9 : t.kind = 9
    · rw [if_pos k9] at h ⊢
      refine .inl (.inr (.inr (.inr (.inr (.inl ⟨k9, ?_⟩)))))
      have g0 := gd.g.g0
      unfold groupO at h
      split at h
      · rename_i hc
        rw [if_pos hc.1]
        exact ⟨_, _, encl_of (opening 1) h gd, .inl ⟨hc.1, hc.2, rfl, rfl⟩⟩
      rename_i hc
      split at h
      · cases h
      rename_i hd
      have ha : t.a = s.groups + 1 ∧ t.a ≤ 20 := by omega
      rw [if_neg (by omega)]
      split at h
      · rename_i hn
        rw [if_pos hn]
        exact ⟨_, _, encl_of (opening 0) h (grp_gd gd (by omega)), .inr (.inl ⟨ha.1, hn, rfl, rfl⟩)⟩
      rename_i hn
      rw [if_neg hn]
      split at h
      · exact ⟨_, _, encl_of _ h (nam_gd gd (by omega) _), .inr (.inr ⟨ha.1, rfl, rfl⟩)⟩
      · cases h
    rw [if_neg k9] at h ⊢
    by_cases k10 : t.kind = 10
    · rw [if_pos k10] at h ⊢
      have hm := look_mode h
      exact .inl (.inr (.inr (.inr (.inr (.inr (.inl ⟨k10, hm.1, hm.2, encl_of _ h gd⟩))))))
    rw [if_neg k10] at h ⊢
    by_cases k11 : t.kind = 11
    · rw [if_pos k11] at h ⊢
      exact .inl (.inr (.inr (.inr (.inr (.inr (.inr (.inl ⟨k11, encl_of _ h gd⟩)))))))
    rw [if_neg k11] at h ⊢
    by_cases k12 : t.kind = 12
    · rw [if_pos k12]; exact .inl (.inr (.inr (.inr (.inr (.inr (.inr (.inr (.inl ⟨k12, rfl⟩))))))))
    rw [if_neg k12] at h ⊢
    by_cases k13 : t.kind = 13
    · rw [if_pos k13]; exact .inl (.inr (.inr (.inr (.inr (.inr (.inr (.inr (.inr (.inl ⟨k13, rfl⟩)))))))))
    rw [if_neg k13] at h ⊢
    by_cases k14 : t.kind = 14
    · exact .inl (.inr (.inr (.inr (.inr (.inr (.inr (.inr (.inr (.inr ⟨k14, rfl⟩)))))))))
    · rw [if_neg k14] at h; cases h
end
/-- The node's kind that a first token tells. -/
def kd (T : Tk) : Int := if T.kind = 11 then 3 else if T.kind = 8 then 5 else if T.kind = 3 then (if T.mode ≤ 2 then 9 else if T.mode = 7 then 11 else 10) else if T.kind = 7 then 12 else if T.kind = 9 then 13 else if T.kind = 10 then 14 else T.kind
theorem simple_head {g : Int} {t : Nd} {a : List Tk} (h : Simple g t a) : ∃ T l, a = T :: l ∧ kd T = t.kind ∧ T.kind ≠ 4 ∧ T.kind ≠ 5 ∧ T.kind ≠ 6 := by
  rcases h with ⟨k, rfl⟩ | ⟨k, rfl⟩ | ⟨k, b, _, rfl⟩ | ⟨k, rfl⟩ | ⟨k, g', o, ⟨x, b, _, _, rfl⟩, ho⟩ | ⟨k, m0, m3, x, b, _, _, rfl⟩ | ⟨k, x, b, _, _, rfl⟩ | ⟨k, rfl⟩ | ⟨k, rfl⟩ | ⟨k, rfl⟩
  · exact ⟨_, _, rfl, by rw [k]; rfl, by simp [char], by simp [char], by simp [char]⟩
  · exact ⟨_, _, rfl, by rw [k]; rfl, by decide, by decide, by decide⟩
  · exact ⟨_, _, rfl, by rw [k]; rfl, by simp [classT], by simp [classT], by simp [classT]⟩
  · exact ⟨_, _, rfl, by rw [k]; rfl, by simp [prop], by simp [prop], by simp [prop]⟩
  · refine ⟨_, _, rfl, ?_⟩
    rcases ho with ⟨_, _, _, rfl⟩ | ⟨_, _, _, rfl⟩ | ⟨_, _, rfl⟩
    · exact ⟨by rw [k]; rfl, by decide, by decide, by decide⟩
    · exact ⟨by rw [k]; rfl, by decide, by decide, by decide⟩
    · exact ⟨by rw [k]; rfl, by simp, by simp, by simp⟩
  · refine ⟨_, _, rfl, ?_, by simp [opening], by simp [opening], by simp [opening]⟩
    rw [k]; unfold kd opening
    rw [if_neg (by show ¬ (3 : Int) = 11; decide), if_neg (by show ¬ (3 : Int) = 8; decide), if_pos rfl, if_neg (by show ¬ t.mode + 3 ≤ 2; omega), if_neg (by show ¬ t.mode + 3 = 7; omega)]
  · exact ⟨_, _, rfl, by rw [k]; rfl, by decide, by decide, by decide⟩
  · exact ⟨_, _, rfl, by rw [k]; rfl, by simp [asrt], by simp [asrt], by simp [asrt]⟩
  · exact ⟨_, _, rfl, by rw [k]; rfl, by simp, by simp, by simp⟩
  · exact ⟨_, _, rfl, by rw [k]; rfl, by decide, by decide, by decide⟩
end Go.Proofs.YtbdediacfckpcaaGreatDoor.tre
end

section
/- A pattern's tokens tell its tree: the trees of one pattern are one. Plain mathematics. -/
set_option linter.unusedVariables false
set_option linter.unusedSimpArgs false
namespace Go.Proofs.YtbdediacfckpcaaGreatDoor.tre
open Go.RowKit nod tok

def BodyU (L : Nat) : Prop := ∀ (g : Int) (t u : Nd) (a b X Y : List Tk), a.length < L → BodyOk g t a → BodyOk g u b → a ++ bare 4 :: X = b ++ bare 4 :: Y → t = u ∧ X = Y
theorem encl_u {L : Nat} (IH : BodyU L) {g : Int} {t u : Nd} {o o' : Tk} {a b X Y : List Tk} (hl : a.length ≤ L) (h : EnclOk g t o a) (k : EnclOk g u o' b) (e : a ++ X = b ++ Y) : t.kids = u.kids ∧ o = o' ∧ X = Y := by
  obtain ⟨x, c, hx, bx, rfl⟩ := h
  obtain ⟨y, d, hy, by_, rfl⟩ := k
  simp only [List.cons_append, List.append_assoc, List.nil_append, List.cons.injEq] at e
  simp only [List.length_cons, List.length_append] at hl
  obtain ⟨e2, e3⟩ := IH g x y c d X Y (by omega) bx by_ e.2
  exact ⟨by rw [hx, hy, e2], e.1, e3⟩
theorem encl_o {g g' : Int} {t u : Nd} {o o' : Tk} {a b X Y : List Tk} (h : EnclOk g t o a) (k : EnclOk g' u o' b) (e : a ++ X = b ++ Y) : o = o' := by
  obtain ⟨x, c, hx, bx, rfl⟩ := h
  obtain ⟨y, d, hy, by_, rfl⟩ := k
  simp only [List.cons_append, List.cons.injEq] at e
  exact e.1
theorem kind_u {g : Int} {t u : Nd} {a b X Y : List Tk} (h : Simple g t a) (k : Simple g u b) (e : a ++ X = b ++ Y) : t.kind = u.kind := by
  obtain ⟨T, l, rfl, h1, _⟩ := simple_head h
  obtain ⟨T', l', rfl, h2, _⟩ := simple_head k
  simp only [List.cons_append, List.cons.injEq] at e
  rw [← h1, ← h2, e.1]
theorem name_eq {x y : ByteArray} (h : x.data.toList = y.data.toList) : x = y := by rw [← ba_data x, ← ba_data y, h]
theorem size_zero {x y : ByteArray} (h : x.size = 0) (k : y.size = 0) : x = y := by
  apply name_eq
  rw [List.eq_nil_of_length_eq_zero (l := x.data.toList) (by rw [show x.data.toList.length = x.size from Array.length_toList, h]), List.eq_nil_of_length_eq_zero (l := y.data.toList) (by rw [show y.data.toList.length = y.size from Array.length_toList, k])]
theorem simple1 {g : Int} {u : Nd} {b : List Tk} (k : Simple g u b) (h : u.kind = 1) : b = [char u.a] := by
  rcases k with k | k | k | k | k | k | k | k | k | k <;> first | (exfalso; have := k.1; omega) | exact k.2
theorem simple2 {g : Int} {u : Nd} {b : List Tk} (k : Simple g u b) (h : u.kind = 2) : b = [bare 2] := by
  rcases k with k | k | k | k | k | k | k | k | k | k <;> first | (exfalso; have := k.1; omega) | exact k.2
theorem simple3 {g : Int} {u : Nd} {b : List Tk} (k : Simple g u b) (h : u.kind = 3) : ∃ d, InsOk u d ∧ b = classT u.neg :: (d ++ [bare 12]) := by
  rcases k with k | k | k | k | k | k | k | k | k | k <;> first | (exfalso; have := k.1; omega) | exact k.2
theorem simple5 {g : Int} {u : Nd} {b : List Tk} (k : Simple g u b) (h : u.kind = 5) : b = [prop u.name.data.toList u.neg] := by
  rcases k with k | k | k | k | k | k | k | k | k | k <;> first | (exfalso; have := k.1; omega) | exact k.2
theorem simple9 {g : Int} {u : Nd} {b : List Tk} (k : Simple g u b) (h : u.kind = 9) : GroupOk g u b := by
  rcases k with k | k | k | k | k | k | k | k | k | k <;> first | (exfalso; have := k.1; omega) | exact k.2
theorem simple10 {g : Int} {u : Nd} {b : List Tk} (k : Simple g u b) (h : u.kind = 10) : 0 ≤ u.mode ∧ u.mode ≤ 3 ∧ EnclOk g u (opening (u.mode + 3)) b := by
  rcases k with k | k | k | k | k | k | k | k | k | k <;> first | (exfalso; have := k.1; omega) | exact k.2
theorem simple11 {g : Int} {u : Nd} {b : List Tk} (k : Simple g u b) (h : u.kind = 11) : EnclOk g u (opening 7) b := by
  rcases k with k | k | k | k | k | k | k | k | k | k <;> first | (exfalso; have := k.1; omega) | exact k.2
theorem simple12 {g : Int} {u : Nd} {b : List Tk} (k : Simple g u b) (h : u.kind = 12) : b = [asrt u.mode] := by
  rcases k with k | k | k | k | k | k | k | k | k | k <;> first | (exfalso; have := k.1; omega) | exact k.2
theorem simple13 {g : Int} {u : Nd} {b : List Tk} (k : Simple g u b) (h : u.kind = 13) : b = [⟨9, 0, u.a, 0, [], false, 0, 0⟩] := by
  rcases k with k | k | k | k | k | k | k | k | k | k <;> first | (exfalso; have := k.1; omega) | exact k.2
theorem simple14 {g : Int} {u : Nd} {b : List Tk} (k : Simple g u b) (h : u.kind = 14) : b = [bare 10] := by
  rcases k with k | k | k | k | k | k | k | k | k | k <;> first | (exfalso; have := k.1; omega) | exact k.2
theorem simple_u {L : Nat} (IH : BodyU L) {g : Int} {t u : Nd} {a b X Y : List Tk} (hl : a.length ≤ L) (ht : othersZ t = true) (hu : othersZ u = true) (h : Simple g t a) (k : Simple g u b) (e : a ++ X = b ++ Y) : t = u ∧ X = Y := by
  have hk := kind_u h k e
  rcases h with ⟨k1, rfl⟩ | ⟨k1, rfl⟩ | ⟨k1, c, ic, rfl⟩ | ⟨k1, rfl⟩ | ⟨k1, g1, o1, en1, ho1⟩ | ⟨k1, m0, m3, en1⟩ | ⟨k1, en1⟩ | ⟨k1, rfl⟩ | ⟨k1, rfl⟩ | ⟨k1, rfl⟩
  · obtain rfl := simple1 k (hk.symm.trans k1)
    simp only [List.cons_append, List.nil_append, List.cons.injEq] at e
    have ea : t.a = u.a := congrArg Tk.a e.1
    exact ⟨shape_eq ht hu hk (nomay k1 (by decide +kernel)) (fun _ => ea) (nomay k1 (by decide +kernel)) (nomay k1 (by decide +kernel)) (nomay k1 (by decide +kernel)) (nomay k1 (by decide +kernel)), e.2⟩
  · obtain rfl := simple2 k (hk.symm.trans k1)
    simp only [List.cons_append, List.nil_append, List.cons.injEq] at e
    exact ⟨shape_eq ht hu hk (nomay k1 (by decide +kernel)) (nomay k1 (by decide +kernel)) (nomay k1 (by decide +kernel)) (nomay k1 (by decide +kernel)) (nomay k1 (by decide +kernel)) (nomay k1 (by decide +kernel)), e.2⟩
  · obtain ⟨d, id, rfl⟩ := simple3 k (hk.symm.trans k1)
    simp only [List.cons_append, List.append_assoc, List.nil_append, List.cons.injEq] at e
    have eg : t.neg = u.neg := congrArg Tk.neg e.1
    obtain ⟨em, ek, eX⟩ := ins_u (c.length + 1) t u c d X Y (by omega) ic id e.2
    exact ⟨shape_eq ht hu hk (fun _ => em) (nomay k1 (by decide +kernel)) (nomay k1 (by decide +kernel)) (fun _ => eg) (nomay k1 (by decide +kernel)) (fun _ => ek), eX⟩
  · obtain rfl := simple5 k (hk.symm.trans k1)
    simp only [List.cons_append, List.nil_append, List.cons.injEq] at e
    have en : t.name = u.name := name_eq (congrArg Tk.name e.1)
    have eg : t.neg = u.neg := congrArg Tk.neg e.1
    exact ⟨shape_eq ht hu hk (nomay k1 (by decide +kernel)) (nomay k1 (by decide +kernel)) (nomay k1 (by decide +kernel)) (fun _ => eg) (fun _ => en) (nomay k1 (by decide +kernel)), e.2⟩
  · obtain ⟨g2, o2, en2, ho2⟩ := simple9 k (hk.symm.trans k1)
    have eo := encl_o en1 en2 e
    have done : g1 = g2 → t.a = u.a → t.name = u.name → t = u ∧ X = Y := by
      rintro rfl ea en
      obtain ⟨ek, _, eX⟩ := encl_u IH hl en1 en2 e
      exact ⟨shape_eq ht hu hk (nomay k1 (by decide +kernel)) (fun _ => ea) (nomay k1 (by decide +kernel)) (nomay k1 (by decide +kernel)) (fun _ => en) (fun _ => ek), eX⟩
    rcases ho1 with ⟨p1, p2, p3, p4⟩ | ⟨p1, p2, p3, p4⟩ | ⟨p1, p3, p4⟩ <;> rcases ho2 with ⟨q1, q2, q3, q4⟩ | ⟨q1, q2, q3, q4⟩ | ⟨q1, q3, q4⟩ <;> rw [p4, q4] at eo
    · exact done (p3.trans q3.symm) (p1.trans q1.symm) (size_zero p2 q2)
    · exact absurd (congrArg Tk.mode eo) (by simp [opening])
    · exact absurd (congrArg Tk.mode eo) (by simp [opening])
    · exact absurd (congrArg Tk.mode eo) (by simp [opening])
    · exact done (p3.trans q3.symm) (p1.trans q1.symm) (size_zero p2 q2)
    · exact absurd (congrArg Tk.mode eo) (by simp [opening])
    · exact absurd (congrArg Tk.mode eo) (by simp [opening])
    · exact absurd (congrArg Tk.mode eo) (by simp [opening])
    · exact done (p3.trans q3.symm) (p1.trans q1.symm) (name_eq (congrArg Tk.name eo))
  · obtain ⟨n0, n3, en2⟩ := simple10 k (hk.symm.trans k1)
    obtain ⟨ek, eo, eX⟩ := encl_u IH hl en1 en2 e
    have em : t.mode + 3 = u.mode + 3 := congrArg Tk.mode eo
    exact ⟨shape_eq ht hu hk (fun _ => by omega) (nomay k1 (by decide +kernel)) (nomay k1 (by decide +kernel)) (nomay k1 (by decide +kernel)) (nomay k1 (by decide +kernel)) (fun _ => ek), eX⟩
  · have en2 := simple11 k (hk.symm.trans k1)
    obtain ⟨ek, eo, eX⟩ := encl_u IH hl en1 en2 e
    exact ⟨shape_eq ht hu hk (nomay k1 (by decide +kernel)) (nomay k1 (by decide +kernel)) (nomay k1 (by decide +kernel)) (nomay k1 (by decide +kernel)) (nomay k1 (by decide +kernel)) (fun _ => ek), eX⟩
  · obtain rfl := simple12 k (hk.symm.trans k1)
    simp only [List.cons_append, List.nil_append, List.cons.injEq] at e
    have em : t.mode = u.mode := congrArg Tk.mode e.1
    exact ⟨shape_eq ht hu hk (fun _ => em) (nomay k1 (by decide +kernel)) (nomay k1 (by decide +kernel)) (nomay k1 (by decide +kernel)) (nomay k1 (by decide +kernel)) (nomay k1 (by decide +kernel)), e.2⟩
  · obtain rfl := simple13 k (hk.symm.trans k1)
    simp only [List.cons_append, List.nil_append, List.cons.injEq] at e
    have ea : t.a = u.a := congrArg Tk.a e.1
    exact ⟨shape_eq ht hu hk (nomay k1 (by decide +kernel)) (fun _ => ea) (nomay k1 (by decide +kernel)) (nomay k1 (by decide +kernel)) (nomay k1 (by decide +kernel)) (nomay k1 (by decide +kernel)), e.2⟩
  · obtain rfl := simple14 k (hk.symm.trans k1)
    simp only [List.cons_append, List.nil_append, List.cons.injEq] at e
    exact ⟨shape_eq ht hu hk (nomay k1 (by decide +kernel)) (nomay k1 (by decide +kernel)) (nomay k1 (by decide +kernel)) (nomay k1 (by decide +kernel)) (nomay k1 (by decide +kernel)) (nomay k1 (by decide +kernel)), e.2⟩
end Go.Proofs.YtbdediacfckpcaaGreatDoor.tre
end

section
/- One pattern, one tree. Plain mathematics. -/
set_option linter.unusedVariables false
set_option linter.unusedSimpArgs false
namespace Go.Proofs.YtbdediacfckpcaaGreatDoor.tre
open Go.RowKit nod tok

def NR (X : List Tk) : Prop := ∀ T l, X = T :: l → T.kind ≠ 6
def TerP (X : List Tk) : Prop := ∀ T l, X = T :: l → T.kind = 4 ∨ T.kind = 5
def Ter4 (X : List Tk) : Prop := ∀ T l, X = T :: l → T.kind = 4
theorem TerP.nr {X : List Tk} (h : TerP X) : NR X := fun T l e => by have := h T l e; omega
theorem Ter4.p {X : List Tk} (h : Ter4 X) : TerP X := fun T l e => .inl (h T l e)
theorem part_simple {g : Int} {t : Nd} {a : List Tk} (h : PartOk g t a) (hr : repB t.kind = true) : othersZ t = true ∧ Simple g t a := by
  obtain ⟨ho, h | h⟩ := part_inv h
  · exact ⟨ho, h⟩
  · rw [h.1] at hr; exact absurd hr (by decide)
theorem part_head {g : Int} {t : Nd} {a : List Tk} (h : PartOk g t a) : ∃ T l, a = T :: l ∧ T.kind ≠ 4 ∧ T.kind ≠ 5 ∧ T.kind ≠ 6 := by
  obtain ⟨ho, h | ⟨_, x, c, _, hr, hx, rfl⟩⟩ := part_inv h
  · obtain ⟨T, l, e, _, h⟩ := simple_head h
    exact ⟨T, l, e, h⟩
  · obtain ⟨T, l, rfl, _, h⟩ := simple_head (part_simple hx hr).2
    exact ⟨T, l ++ _, rfl, h⟩
theorem part_u {L : Nat} (IH : BodyU L) {g : Int} {t u : Nd} {a b X Y : List Tk} (hl : a.length ≤ L) (h : PartOk g t a) (k : PartOk g u b) (nX : NR X) (nY : NR Y) (e : a ++ X = b ++ Y) : t = u ∧ X = Y := by
  obtain ⟨ot, h | ⟨k1, x, c, hx, rx, px, rfl⟩⟩ := part_inv h <;> obtain ⟨ou, k | ⟨k2, y, d, hy, ry, py, rfl⟩⟩ := part_inv k
  · exact simple_u IH hl ot ou h k e
  · rw [List.append_assoc] at e
    obtain ⟨oy, sy⟩ := part_simple py ry
    obtain ⟨_, e2⟩ := simple_u IH hl ot oy h sy e
    exact absurd rfl (nX _ _ e2)
  · rw [List.append_assoc] at e
    obtain ⟨ox, sx⟩ := part_simple px rx
    rw [List.length_append] at hl
    obtain ⟨_, e2⟩ := simple_u IH (by omega) ox ou sx k e
    exact absurd rfl (nY _ _ e2.symm)
  · rw [List.append_assoc, List.append_assoc] at e
    obtain ⟨ox, sx⟩ := part_simple px rx
    obtain ⟨oy, sy⟩ := part_simple py ry
    rw [List.length_append] at hl
    obtain ⟨exy, e2⟩ := simple_u IH (by omega) ox oy sx sy e
    simp only [List.cons_append, List.nil_append, List.cons.injEq] at e2
    have em : t.mode = u.mode := congrArg Tk.mode e2.1
    have ea : t.a = u.a := congrArg Tk.a e2.1
    have eb : t.b = u.b := congrArg Tk.b e2.1
    exact ⟨shape_eq ot ou (k1.trans k2.symm) (fun _ => em) (fun _ => ea) (fun _ => eb) (nomay k1 (by decide +kernel)) (nomay k1 (by decide +kernel)) (fun _ => by rw [hx, hy, exy]), e2.2⟩
theorem parts_nr {g : Int} {ks : List Nd} {b X : List Tk} (h : PartsOk g ks b) (t : TerP X) : NR (b ++ X) := by
  cases h with
  | nil => exact t.nr
  | cons hx hk =>
    obtain ⟨T, l, rfl, hT⟩ := part_head hx
    intro T' l' e
    simp only [List.cons_append] at e
    cases e
    exact hT.2.2
theorem ter_part {g : Int} {x : Nd} {a X Y : List Tk} (h : PartOk g x a) (t : TerP X) (e : X = a ++ Y) : False := by
  obtain ⟨T, l, rfl, hT⟩ := part_head h
  have := t T (l ++ Y) e
  omega
theorem parts_u {L : Nat} (IH : BodyU L) {g : Int} {ks : List Nd} {a : List Tk} (hx : PartsOk g ks a) : ∀ {ls : List Nd} {b X Y : List Tk}, a.length ≤ L → PartsOk g ls b → TerP X → TerP Y → a ++ X = b ++ Y → ks = ls ∧ X = Y := by
  induction hx with
  | nil =>
    intro ls b X Y hl hy tX tY e
    cases hy with
    | nil => exact ⟨rfl, e⟩
    | cons h1 h2 => rw [List.append_assoc] at e; exact (ter_part h1 tX e).elim
  | cons h1 h2 ih =>
    intro ls b X Y hl hy tX tY e
    cases hy with
    | nil => rw [List.append_assoc] at e; exact (ter_part h1 tY e.symm).elim
    | cons g1 g2 =>
      rw [List.append_assoc, List.append_assoc] at e
      rw [List.length_append] at hl
      obtain ⟨rfl, e2⟩ := part_u IH (by omega) h1 g1 (parts_nr h2 tX) (parts_nr g2 tY) e
      obtain ⟨rfl, e3⟩ := ih (by omega) g2 tX tY e2
      exact ⟨rfl, e3⟩
theorem seq_u {L : Nat} (IH : BodyU L) {g : Int} {t u : Nd} {a b X Y : List Tk} (hl : a.length ≤ L) (h : SeqOk g t a) (k : SeqOk g u b) (tX : TerP X) (tY : TerP Y) (e : a ++ X = b ++ Y) : t = u ∧ X = Y := by
  obtain ⟨k1, ot, h⟩ := h
  obtain ⟨k2, ou, k⟩ := k
  obtain ⟨ek, e2⟩ := parts_u IH h hl k tX tY e
  exact ⟨shape_eq ot ou (k1.trans k2.symm) (nomay k1 (by decide +kernel)) (nomay k1 (by decide +kernel)) (nomay k1 (by decide +kernel)) (nomay k1 (by decide +kernel)) (nomay k1 (by decide +kernel)) (fun _ => ek), e2⟩
theorem bars_ter {g : Int} {ks : List Nd} {b X : List Tk} (h : BarsOk g ks b) (t : Ter4 X) : TerP (b ++ X) := by
  cases h with
  | nil => exact t.p
  | cons hx hk =>
    intro T' l' e
    simp only [List.cons_append] at e
    cases e
    exact .inr rfl
theorem bars_u {L : Nat} (IH : BodyU L) {g : Int} {ks : List Nd} {a : List Tk} (hx : BarsOk g ks a) : ∀ {ls : List Nd} {b X Y : List Tk}, a.length ≤ L → BarsOk g ls b → Ter4 X → Ter4 Y → a ++ X = b ++ Y → ks = ls ∧ X = Y := by
  induction hx with
  | nil =>
    intro ls b X Y hl hy tX tY e
    cases hy with
    | nil => exact ⟨rfl, e⟩
    | cons h1 h2 => exact absurd (tX _ _ e) (by decide)
  | cons h1 h2 ih =>
    intro ls b X Y hl hy tX tY e
    cases hy with
    | nil => exact absurd (tY _ _ e.symm) (by decide)
    | cons g1 g2 =>
      simp only [List.cons_append, List.append_assoc, List.cons.injEq] at e
      rw [List.length_cons, List.length_append] at hl
      obtain ⟨rfl, e2⟩ := seq_u IH (by omega) h1 g1 (bars_ter h2 tX) (bars_ter g2 tY) e.2
      obtain ⟨rfl, e3⟩ := ih (by omega) g2 tX tY e2
      exact ⟨rfl, e3⟩
theorem body_u1 {L : Nat} (IH : BodyU L) {g : Int} {t u : Nd} {a b X Y : List Tk} (hl : a.length ≤ L) (h : BodyOk g t a) (k : BodyOk g u b) (tX : Ter4 X) (tY : Ter4 Y) (e : a ++ X = b ++ Y) : t = u ∧ X = Y := by
  rcases h with h | ⟨k1, ot, x, y, ks, c, d, hk, sx, bx, rfl⟩ <;> rcases k with k | ⟨k2, ou, x', y', ks', c', d', hk', sx', bx', rfl⟩
  · exact seq_u IH hl h k tX.p tY.p e
  · rw [List.append_assoc] at e
    obtain ⟨_, e2⟩ := seq_u IH hl h sx' tX.p (bars_ter bx' tY) e
    cases bx' with
    | cons _ _ => exact absurd (tX _ _ e2) (by decide)
  · rw [List.append_assoc] at e
    rw [List.length_append] at hl
    obtain ⟨_, e2⟩ := seq_u IH (by omega) sx k (bars_ter bx tX) tY.p e
    cases bx with
    | cons _ _ => exact absurd (tY _ _ e2.symm) (by decide)
  · rw [List.append_assoc, List.append_assoc] at e
    rw [List.length_append] at hl
    obtain ⟨rfl, e2⟩ := seq_u IH (by omega) sx sx' (bars_ter bx tX) (bars_ter bx' tY) e
    obtain ⟨e3, e4⟩ := bars_u IH bx (by omega) bx' tX tY e2
    exact ⟨shape_eq ot ou (k1.trans k2.symm) (nomay k1 (by decide +kernel)) (nomay k1 (by decide +kernel)) (nomay k1 (by decide +kernel)) (nomay k1 (by decide +kernel)) (nomay k1 (by decide +kernel)) (fun _ => by rw [hk, hk', e3]), e4⟩
theorem body_u : ∀ L : Nat, BodyU L := by
  intro L
  induction L with
  | zero => intro g t u a b X Y h; omega
  | succ L IH =>
    intro g t u a b X Y hl h k e
    obtain ⟨e1, e2⟩ := body_u1 IH (by omega) h k (X := bare 4 :: X) (Y := bare 4 :: Y) (fun T l e => by cases e; rfl) (fun T l e => by cases e; rfl) e
    exact ⟨e1, by simpa using e2⟩
theorem w00_gd : Gd w00 := ⟨⟨by decide, by decide, by decide, by decide, by decide, by decide, by decide⟩, by decide⟩
/-- Two trees of one pattern are one. -/
theorem pat_inj {N : Nat} {t u : Nd} {l : List UInt8} (h : patO N t = some l) (k : patO N u = some l) : t = u := by
  have e := pat_tokens h k
  unfold patO at h k
  obtain ⟨s', h1, _⟩ := Option.map_eq_some_iff.1 h
  obtain ⟨r', k1, _⟩ := Option.map_eq_some_iff.1 k
  have p := body_of h1 w00_gd
  have q := body_of k1 w00_gd
  exact (body_u1 (body_u _) (Nat.le_refl _) p q (X := []) (Y := []) (fun T l e => by cases e) (fun T l e => by cases e) (by rw [e])).1
end Go.Proofs.YtbdediacfckpcaaGreatDoor.tre
end
