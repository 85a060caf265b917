/- What trie.settled answers: a list that rises, in which each code point has the value of the last entry with it. -/
import Derived.Test.YtmglljceklmngaaTriOver
import Derived.Deep.RegionWith
set_option linter.unusedVariables false
set_option linter.unusedSimpArgs false
namespace Go.Proofs.Ytmglljceklmngaa.tri
open Go.RowKit
open Go.Proofs.Ytmglljceklmngaa.rng (ret_int ret_bool below_drewN info_parts own_below')

theorem over_length : ∀ (v u : List E), v.length ≤ (over u v).length
  | [], u => by simp
  | t :: v, u => by
    rw [over, List.length_append, List.length_cons, List.length_cons]
    have := over_length v (step t u).2
    omega

/-- Two worlds with one memory. -/
structure Alike (w W : World) : Prop where
  heap : W.heap = w.heap
  os : W.os = w.os
  tape : W.tape = w.tape
  output : W.output = w.output
theorem Alike.mut {w W w' : World} {g lo hi : Nat} (a : Alike w W) (m : Mut W w' g lo hi) : Mut w w' g lo hi := by
  obtain ⟨h1, h2, h3, h4⟩ := a
  have hc : ∀ p, W.cell? p = w.cell? p := fun p => by simp only [World.cell?, h1]
  have hf : ∀ p, W.frozen? p = w.frozen? p := fun p => by simp only [World.frozen?, h1]
  exact ⟨m.os.trans h2, m.tape.trans h3, m.output.trans h4, by rw [← h1]; exact m.size, fun k hk hg => by rw [← h1] at hk ⊢; exact m.block k hk hg, fun i hi => (m.cell i hi).trans (hc _), fun i => (m.frozen i).trans (hf _)⟩
theorem Alike.eat {w W : World} {b off : Nat} {l : List E} (a : Alike w W) (h : EAt w b off l) : EAt W b off l := fun i p hp => by
  have hc : ∀ p, W.cell? p = w.cell? p := fun p => by simp only [World.cell?, a.heap]
  rw [hc, hc, hc]; exact h i p hp
theorem Alike.frozen {w W : World} {b : Nat} (a : Alike w W) (h : ∀ i, w.frozen? ⟨b, i, none⟩ = false) : ∀ i, W.frozen? ⟨b, i, none⟩ = false := fun i => by
  have hf : ∀ p, W.frozen? p = w.frozen? p := fun p => by simp only [World.frozen?, a.heap]
  rw [hf]; exact h i

/-- The value v is a slice of the entries s, in a block of the call's own or within cells off to off + n * 3 of block g. -/
structure Res (w w' : World) (g off n : Nat) (nv : Int) (l : List E) (a : Addr) (k c : Nat) (s : List E) : Prop where
  spot : a.spot = none
  len : s.length = k
  cap : k ≤ c ∧ c ≤ 9223372036854775807
  row : EAt w' a.block a.off s
  lt : a.block < w'.heap.size
  melts : ∀ i, w'.frozen? ⟨a.block, i, none⟩ = false
  place : w.heap.size ≤ a.block ∨ (a.block = g ∧ off ≤ a.off ∧ a.off + k * 3 ≤ off + n * 3)
  some : 0 < n → 0 < k
  ris : Ris nv 0 s
  tells : ∀ x, at_ s x = last l x
  chg : Mut w w' g off (off + n * 3)

set_option maxRecDepth 10000 in
set_option maxHeartbeats 4000000 in
theorem settled_any (nv : Int) : ∀ (n g off cap : Nat) (l : List E) (w : World), l.length = n → n ≤ 1000000 → n ≤ cap → cap ≤ 9223372036854775807 → EAt w g off l → g < w.heap.size → (∀ i, w.frozen? ⟨g, i, none⟩ = false) → (∀ e ∈ l, good nv e = true ∧ 0 ≤ e.1 ∧ e.2.1 ≤ 1114111) →
    Calls Try.prog 28 #[.slice (some ⟨g, off, none⟩) n cap] w fun e w' => ∃ b o k c s, e = .returned (.slice (some ⟨b, o, none⟩) k c) ∧ Res w w' g off n nv l ⟨b, o, none⟩ k c s := by
  intro n
  induction n using Nat.strongRecOn with
  | _ n ih =>
  intro g off cap l w hl hn hnc hcm hE hg hfz hgd
  by_cases h2 : n < 2
  · have HR : Hid (Res w w g off n nv l ⟨g, off, none⟩ n cap l) := by
      have hr : Ris nv 0 l ∧ ∀ x, at_ l x = last l x := by
        match l, hl, hgd with
        | [], _, _ => exact ⟨trivial, fun x => rfl⟩
        | [e], _, hgd =>
          obtain ⟨q1, q2, q3⟩ := hgd e (by simp)
          have := ris_one q1 q2 q3
          exact ⟨this, fun x => (ris_last x this).symm⟩
        | a :: b :: l, hl, _ => simp at hl; omega
      exact ⟨rfl, hl, ⟨hnc, hcm⟩, hE, hg, hfz, .inr ⟨rfl, Nat.le_refl _, Nat.le_refl _⟩, id, hr.1, hr.2, Mut.refl _ _ _ _⟩
    have h2' : decide ((n : Int) < 2) = true := decide_eq_true (by omega)
    clear ih hl hE hfz hgd
    go_enter Try.func28, Try.ntmps28
    go_wp2
    go_ret
    exact ⟨_, _, _, _, _, rfl, HR.out⟩
  obtain ⟨H, hH⟩ : ∃ H, n / 2 = H := ⟨_, rfl⟩
  have hdiv : Int.tdiv (n : Int) 2 = (H : Int) := by
    rw [Int.tdiv_eq_ediv_of_nonneg (by omega), ← hH]; omega
  have hH1 : 1 ≤ H := by omega
  have hH2 : H < n := by omega
  have C1 : Hid (∀ W, Alike w W → Calls Try.prog 28 #[.slice (some ⟨g, off, none⟩) H cap] W fun e w' => ∃ b o k c s, e = .returned (.slice (some ⟨b, o, none⟩) k c) ∧ Res w w' g off H nv (l.take H) ⟨b, o, none⟩ k c s) := fun W a => by
    refine (ih H hH2 g off cap (l.take H) W (by rw [List.length_take]; omega) (by omega) (by omega) hcm (a.eat (hE.take H)) (by rw [a.heap]; exact hg) (a.frozen hfz) (fun e he => hgd e (List.mem_of_mem_take he))).mono ?_
    rintro e w' ⟨b, o, k, c, s, rfl, r⟩
    exact ⟨b, o, k, c, s, rfl, ⟨r.spot, r.len, r.cap, r.row, r.lt, r.melts, by rw [← a.heap]; exact r.place, r.some, r.ris, r.tells, a.mut r.chg⟩⟩
  have C2 : Hid (∀ w1 W, Mut w w1 g off (off + H * 3) → Alike w1 W → Calls Try.prog 28 #[.slice (some ⟨g, off + H * 3, none⟩) (n - H) (cap - H)] W fun e w' => ∃ b o k c s, e = .returned (.slice (some ⟨b, o, none⟩) k c) ∧ Res w1 w' g (off + H * 3) (n - H) nv (l.drop H) ⟨b, o, none⟩ k c s) := fun w1 W m a => by
    have e1 : EAt w1 g (off + H * 3) (l.drop H) := (hE.drop H).mut m (by omega)
    have hg1 : g < w1.heap.size := by have := m.size; omega
    refine (ih (n - H) (by omega) g (off + H * 3) (cap - H) (l.drop H) W (by rw [List.length_drop]; omega) (by omega) (by omega) (by omega) (a.eat e1) (by rw [a.heap]; exact hg1) (a.frozen (frozen_mut m hg hfz)) (fun e he => hgd e (List.mem_of_mem_drop he))).mono ?_
    rintro e w' ⟨b, o, k, c, s, rfl, r⟩
    exact ⟨b, o, k, c, s, rfl, ⟨r.spot, r.len, r.cap, r.row, r.lt, r.melts, by rw [← a.heap]; exact r.place, r.some, r.ris, r.tells, a.mut r.chg⟩⟩
  have C3 : Hid (∀ w1 w2 W b1 o1 k1 c1 s1 b2 o2 k2 c2 s2, Res w w1 g off H nv (l.take H) ⟨b1, o1, none⟩ k1 c1 s1 → Res w1 w2 g (off + H * 3) (n - H) nv (l.drop H) ⟨b2, o2, none⟩ k2 c2 s2 → Alike w2 W →
      Calls Try.prog 42 #[.slice (some ⟨b1, o1, none⟩) k1 c1, .slice (some ⟨b2, o2, none⟩) k2 c2] W fun e w' => ∃ b o k c s, e = .returned (.slice (some ⟨b, o, none⟩) k c) ∧ Res w w' g off n nv l ⟨b, o, none⟩ k c s) := fun w1 w2 W b1 o1 k1 c1 s1 b2 o2 k2 c2 s2 r1 r2 a => by
    have p1 := r1.place
    have p2 := r2.place
    have l1 := r1.lt
    simp only at p1 p2 l1
    have z1 := r1.chg.size
    have z2 := r2.chg.size
    have e1 : EAt w2 b1 o1 s1 := r1.row.mut r2.chg (by rw [r1.len]; simp only; omega)
    obtain ⟨g1, g2⟩ := over_good s2 s1 0 r1.ris r2.ris
    have hT := ris_len g1
    refine (overlay_any b1 o1 k1 c1 b2 o2 k2 c2 s1 s2 W r1.len r2.len (by have := ris_len r1.ris; rw [r1.len] at this; omega) (by have := ris_len r2.ris; rw [r2.len] at this; omega) r1.cap.1 r1.cap.2 (by omega)
      (fun e he => by have := ris_mem r2.ris e he; omega) (a.eat e1) (a.eat r2.row) (by rw [a.heap]; omega) (a.frozen (frozen_mut r2.chg l1 r1.melts)) (by omega)).mono ?_
    rintro e w' ⟨v', rfl, ho, hm⟩
    have hpos : 0 < (over s1 s2).length := by
      have := over_length s2 s1; have := r2.some (by omega); have := r2.len; omega
    rcases ho.2 with ⟨_, h0⟩ | ⟨b, c, cur, hv, hb, hgg, hc, hcm2, _⟩
    · omega
    · subst hv
      obtain ⟨q1, q2, q3, q4⟩ := ho.at
      have hm' := a.mut hm
      rw [a.heap] at hb
      refine ⟨b, 0, _, c, over s1 s2, rfl, ⟨rfl, rfl, ⟨hc, by unfold maxLen at hcm2; omega⟩, q1, q3, q4, .inl (by simp only; omega), fun _ => hpos, g1, fun x => ?_, ?_⟩⟩
      · rw [g2 x, r1.tells x, r2.tells x, ← last_append, List.take_append_drop]
      · have m1 := (r1.chg.wide (Nat.le_refl _) (show off + H * 3 ≤ off + n * 3 by omega)).trans (r2.chg.wide (show off ≤ off + H * 3 by omega) (show off + H * 3 + (n - H) * 3 ≤ off + n * 3 by omega))
        rcases p1 with p1 | ⟨p1, p3, p4⟩
        · exact m1.then hg (hm'.below (by omega) p1)
        · rw [p1] at hm'
          exact m1.trans (hm'.wide p3 (by omega))
  clear ih hl hE hfz hgd
  have h2' : decide ((n : Int) < 2) = false := decide_eq_false (by omega)
  have hHc : ¬ cap = H := by omega
  have hHc' : ¬ cap - H = 0 := by omega
  go_enter Try.func28, Try.ntmps28
  go_wp2
  go_region_with (first
    | (go_at_call 42; refine (C3.out _ _ _ _ _ _ _ _ _ _ _ _ _ r1.out r2.out ?_).mono ?_; exact ⟨rfl, rfl, rfl, rfl⟩; rintro e w3 ⟨b3, o3, k3, c3, s3, rfl, q3⟩; have r3 : Hid (Res w w3 g off n nv l ⟨b3, o3, none⟩ k3 c3 s3) := q3; clear q3)
    | (go_at_call 28; refine (C2.out _ _ r1.out.chg ?_).mono ?_; exact ⟨rfl, rfl, rfl, rfl⟩; rintro e w2 ⟨b2, o2, k2, c2, s2, rfl, q2⟩; have r2 : Hid (Res w1 w2 g (off + H * 3) (n - H) nv (l.drop H) ⟨b2, o2, none⟩ k2 c2 s2) := q2; clear q2)
    | (go_at_call 28; refine (C1.out _ ?_).mono ?_; exact ⟨rfl, rfl, rfl, rfl⟩; rintro e w1 ⟨b1, o1, k1, c1, s1, rfl, q1⟩; have r1 : Hid (Res w w1 g off H nv (l.take H) ⟨b1, o1, none⟩ k1 c1 s1) := q1; clear q1))
  all_goals go_wp2
  all_goals go_ret
  all_goals exact ⟨_, _, _, _, _, rfl, r3.out⟩
end Go.Proofs.Ytmglljceklmngaa.tri
