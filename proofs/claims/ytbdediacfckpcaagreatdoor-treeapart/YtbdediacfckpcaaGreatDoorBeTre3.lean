/- Texts that the proof leans on, one behind the other. -/
import Derived.Test.YtbdediacfckpcaaGreatDoorBeTre2
import Derived.Lib.ConvBytes
import Derived.Test.YtbdediacfckpcaaGreatDoorBeTok7
import Derived.Test.YtbdediacfckpcaaGreatDoorBeUpS1

section
/- The writer's small methods against the plain ones: whatever may be written is. -/
set_option linter.unusedVariables false
set_option linter.unusedSimpArgs false
namespace Go.Proofs.YtbdediacfckpcaaGreatDoor.tre
open Go.RowKit nod
open Go.Proofs.YtbdediacfckpcaaGreatDoor.rng (R RV ret_int ret_bool below_drewN info_parts own_below')
open Go.Proofs.YtbdediacfckpcaaGreatDoor.tok (PEnv TX printL)

/-- The writer s, the tables, and what holds of s while it still may be one. -/
structure Cx (w0 W : World) (base g : Nat) (s : Wr) : Prop where
  c : Ctx w0 W base g s
  gd : Gd s
theorem Cx.on {w0 W W' : World} {base g : Nat} {s : Wr} (c : Cx w0 W base g s) (h : Below W.heap.size W W') : Cx w0 W' base g s := ⟨c.c.on h, c.gd⟩
theorem Cx.kt {w0 W W' : World} {base g : Nat} {s : Wr} (c : Cx w0 W base g s) (h : Below W.heap.size W W') : Kt base W W' := Kt.of_below h c.c.size
/-- A call that tells whether it may be, and writes. -/
def Met (f : FuncId) (args : Array Value) (w0 W : World) (base g : Nat) (P : Option Wr) : Prop :=
  Calls Tryz.prog f args W fun e w' => e = .returned (.bool P.isSome) ∧ (∀ s', P = some s' → Cx w0 w' base g s') ∧ Kt base W w'
theorem Met.no {f : FuncId} {args : Array Value} {w0 W : World} {base g : Nat} {P : Option Wr} (h : Met f args w0 W base g P) (e : P = none) :
    Calls Tryz.prog f args W fun e w' => e = .returned (.bool false) ∧ Kt base W w' := by
  subst e
  exact h.mono fun e w' ⟨h1, _, h3⟩ => ⟨h1, h3⟩
theorem Met.ok {f : FuncId} {args : Array Value} {w0 W : World} {base g : Nat} {P : Option Wr} {s' : Wr} (h : Met f args w0 W base g P) (e : P = some s') :
    Calls Tryz.prog f args W fun e w' => e = .returned (.bool true) ∧ Cx w0 w' base g s' ∧ Kt base W w' := by
  subst e
  exact h.mono fun e w' ⟨h1, h2, h3⟩ => ⟨h1, h2 _ rfl, h3⟩
/-- What a caller asks: the same of a world that lies behind its own. -/
theorem Met.of_no {f : FuncId} {args : Array Value} {w0 W : World} {base g : Nat} {P : Option Wr} (e : P = none) (h : Calls Tryz.prog f args W fun e w' => e = .returned (.bool false) ∧ Kt base W w') : Met f args w0 W base g P := by
  subst e
  exact h.mono fun e w' ⟨h1, h3⟩ => ⟨h1, fun s' e => (by cases e), h3⟩
theorem Met.of_ok {f : FuncId} {args : Array Value} {w0 W : World} {base g : Nat} {P : Option Wr} {s' : Wr} (e : P = some s') (h : Calls Tryz.prog f args W fun e w' => e = .returned (.bool true) ∧ Cx w0 w' base g s' ∧ Kt base W w') : Met f args w0 W base g P := by
  subst e
  exact h.mono fun e w' ⟨h1, h2, h3⟩ => ⟨h1, fun s e => (by cases e; exact h2), h3⟩
/-- What a method is at a node. -/
def Con (f : FuncId) (P : Wr → Nd → Option Wr) (t : Nd) : Prop := ∀ (w0 W : World) (base g : Nat) (s : Wr) (v : Value), Cx w0 W base g s → NV base w0 t v → Met f #[.pointer (some ⟨g, 0, none⟩), v] w0 W base g (P s t)

theorem put_met {w0 W : World} {base g : Nat} {s : Wr} (c : Cx w0 W base g s) (t : ByteArray) (ht : t.size ≤ 9223372036854775807) : Met 40 #[.pointer (some ⟨g, 0, none⟩), .string t] w0 W base g (putO s t) := by
  have C := put_any base g s t W c.c.wr c.c.r0 c.c.r1 ht
  cases h : putO s t with
  | none =>
    have e : (putP s t).2 = false := by
      unfold putO at h; unfold putP
      split at h
      · rename_i h1; rw [if_pos h1]
      · rename_i h1
        split at h
        · cases h
        · rename_i h2; rw [if_neg h1, if_neg h2]
    rw [e] at C
    exact Met.of_no rfl (C.mono fun e w' ⟨h1, _, h3⟩ => ⟨h1, h3⟩)
  | some s' =>
    obtain ⟨rfl, hr⟩ := putO_some h
    have h1 : ¬ t.size = 0 := by intro e; unfold putO at h; rw [if_pos e] at h; cases h
    have e : putP s t = ((s.less t.size).add t, true) := putP_ok h1 (by omega)
    rw [e] at C
    have r := put_run h c.gd
    exact Met.of_ok rfl (C.mono fun e w' ⟨h1, h2, h3⟩ => ⟨h1, ⟨c.c.to h3 h2 r.gd.g.r0 r.gd.g.r1, r.gd⟩, h3⟩)
theorem enter_met {w0 W : World} {base g : Nat} {s : Wr} (c : Cx w0 W base g s) (t : ByteArray) (ht : t.size ≤ 9223372036854775807) : Met 64 #[.pointer (some ⟨g, 0, none⟩), .string t] w0 W base g (enterO s t) := by
  have C := enter_any base g s t W c.c.wr c.gd.g ht
  cases h : enterO s t with
  | none =>
    have e : (enterP s t).2 = false := by
      unfold enterO at h; unfold enterP
      split at h
      · rename_i h0
        rw [if_pos h0]
        unfold putO at h; unfold putP
        split at h
        · rename_i h1; rw [if_pos h1]
        · rename_i h1
          split at h
          · cases h
          · rename_i h2; rw [if_neg h1, if_neg h2]
      · rename_i h0; rw [if_neg h0]
    rw [e] at C
    exact Met.of_no rfl (C.mono fun e w' ⟨h1, _, h3⟩ => ⟨h1, h3⟩)
  | some s' =>
    obtain ⟨a1, a2⟩ := enterO_some h
    have g1 := deep_gd c.gd 1 (by have := c.gd.g.d0; omega) a1
    have r := put_run a2 g1
    obtain ⟨rfl, hr⟩ := putO_some a2
    have h1 : ¬ t.size = 0 := by intro e; unfold putO at a2; rw [if_pos e] at a2; cases a2
    have e : enterP s t = (((s.deep 1).less t.size).add t, true) := by unfold enterP; rw [if_pos a1]; exact putP_ok h1 (by omega)
    rw [e] at C
    exact Met.of_ok rfl (C.mono fun e w' ⟨h1, h2, h3⟩ => ⟨h1, ⟨c.c.to h3 h2 r.gd.g.r0 r.gd.g.r1, r.gd⟩, h3⟩)
theorem leave_met {w0 W : World} {base g : Nat} {s : Wr} (c : Cx w0 W base g s) (h1 : 1 ≤ s.depth) (t : ByteArray) (ht : t.size ≤ 9223372036854775807) : Met 66 #[.pointer (some ⟨g, 0, none⟩), .string t] w0 W base g (leaveO s t) := by
  have C := leave_any base g s t W c.c.wr c.gd.g ht
  have g1 := deep_gd c.gd (-1) (by omega) (by have := c.gd.g.d1; omega)
  unfold leaveP at C
  unfold leaveO
  cases h : putO (s.deep (-1)) t with
  | none =>
    have e : (putP (s.deep (-1)) t).2 = false := by
      unfold putO at h; unfold putP
      split at h
      · rename_i h1; rw [if_pos h1]
      · rename_i h1
        split at h
        · cases h
        · rename_i h2; rw [if_neg h1, if_neg h2]
    rw [e] at C
    exact Met.of_no rfl (C.mono fun e w' ⟨h1, _, h3⟩ => ⟨h1, h3⟩)
  | some s' =>
    have r := put_run h g1
    obtain ⟨rfl, hr⟩ := putO_some h
    have h1 : ¬ t.size = 0 := by intro e; unfold putO at h; rw [if_pos e] at h; cases h
    have e : putP (s.deep (-1)) t = (((s.deep (-1)).less t.size).add t, true) := putP_ok h1 (by omega)
    rw [e] at C
    exact Met.of_ok rfl (C.mono fun e w' ⟨h1, h2, h3⟩ => ⟨h1, ⟨c.c.to h3 h2 r.gd.g.r0 r.gd.g.r1, r.gd⟩, h3⟩)
/-- A string as new bytes. -/
theorem convB (w : World) (X : ByteArray) (hX : X.size ≤ 9223372036854775807) : ∃ W cp, (convert 9 48 (.string X)).run Tryz.prog w = .ok (.slice (some ⟨w.heap.size, 0, none⟩) X.size cp) W ∧ utf.IsB W (some ⟨w.heap.size, 0, none⟩) X.size (sfB X) ∧ X.size ≤ cp ∧ cp ≤ 9223372036854775807 ∧ Below w.heap.size w W := by
  refine ⟨_, _, Lib.run_convert_string_bytes (P := Tryz.prog) w 9 48 5 X Tryz.underlying9 Tryz.underlying48 Tryz.underlying5, .inr ⟨_, _, rfl, fun i hi => ?_⟩, grownCap_ge w _ _ _, ?_, ⟨rfl, rfl, rfl, by rw [Lib.bytesWorld_size]; omega, fun k hk => Lib.bytesWorld_at_old w _ X k hk⟩⟩
  · rw [Nat.zero_add]; exact Lib.bytesWorld_cell w _ X i hi
  · have := grownCap_le_maxLen w X.size 0 5 (by unfold maxLen; omega)
    unfold maxLen at this; omega
/-- repeatable. -/
theorem repeatable_any (k : Int) (w : World) : Calls Tryz.prog 69 #[.int .i64 k] w fun e w' => e = .returned (.bool (repB k)) ∧ w' = w := by
  go_enter Tryz.func69, Tryz.ntmps69
  go_wp2
  all_goals (go_ret; exact ⟨by simp_all [repB], rfl⟩)
end Go.Proofs.YtbdediacfckpcaaGreatDoor.tre
end

section
/- The texts of properties, and whether a text is one token of a name. -/
set_option linter.unusedVariables false
set_option linter.unusedSimpArgs false
namespace Go.Proofs.YtbdediacfckpcaaGreatDoor.tre
open Go.RowKit nod
open Go.Proofs.YtbdediacfckpcaaGreatDoor.rng (R RV ret_int ret_bool below_drewN info_parts own_below')
open Go.Proofs.YtbdediacfckpcaaGreatDoor.tok (PEnv TX printL)

theorem propT_size (n : ByteArray) (ng : Bool) (hn : n.size ≤ 140737488355327) : (propT n ng).size ≤ 140737488355331 := by
  unfold propT
  have e : ∀ x y : ByteArray, x.size ≤ 3 → y.size ≤ 1 → ((x ++ n) ++ y).size ≤ 140737488355331 := fun x y hx hy => by rw [ByteArray.size_append, ByteArray.size_append]; omega
  cases ng <;> (repeat' split) <;> first | decide | exact e _ _ (by decide) (by decide) | simp_all
theorem str_eq (x y : ByteArray) : (x.toList == y.toList) = decide (x = y) := by
  rw [Bool.eq_iff_iff, beq_iff_eq, decide_eq_true_eq]
  refine ⟨fun h => ?_, fun h => by rw [h]⟩
  rw [Lib.toList_data, Lib.toList_data] at h
  obtain ⟨⟨x⟩⟩ := x
  obtain ⟨⟨y⟩⟩ := y
  simpa using h
theorem upD (t : ByteArray) (u : List UInt8) (h : t.data.toList = u) : t = ⟨u.toArray⟩ := by rw [← h]
set_option maxHeartbeats 4000000 in
set_option maxRecDepth 10000 in
theorem ptext_letter (x y : UInt8) (hx : x = 100 ∧ y = 68 ∨ x = 119 ∧ y = 87 ∨ x = 115 ∧ y = 83) (ng : Bool) (w : World) : Calls Tryz.prog 67 #[.string ⟨#[x]⟩, .bool ng] w fun e w' => e = .returned (.string (if ng then ⟨#[92, y]⟩ else ⟨#[92, x]⟩)) ∧ Below w.heap.size w w' := by
  have U := Tryz.strings_ToUpper_ascii ⟨#[x]⟩ w (by show 1 ≤ _; omega) (fun j b hj => by
    match j, hj with
    | 0, hj => simp at hj; subst hj; rcases hx with ⟨rfl, _⟩ | ⟨rfl, _⟩ | ⟨rfl, _⟩ <;> decide
    | k + 1, hj => simp at hj)
  have eu : (⟨(Lib.toUpperA (ByteArray.data ⟨#[x]⟩).toList).toArray⟩ : ByteArray) = ⟨#[y]⟩ := by rcases hx with ⟨rfl, rfl⟩ | ⟨rfl, rfl⟩ | ⟨rfl, rfl⟩ <;> decide
  rw [eu] at U
  have s1 : ByteArray.size ⟨#[92]⟩ = 1 := rfl
  have s2 : ByteArray.size ⟨#[x]⟩ = 1 := rfl
  have s3 : ByteArray.size ⟨#[y]⟩ = 1 := rfl
  have HR : Hid (Below w.heap.size w w) := Below.refl _ w
  cases ng
  · rcases hx with ⟨rfl, rfl⟩ | ⟨rfl, rfl⟩ | ⟨rfl, rfl⟩
    all_goals
      clear eu U
      go_enter Tryz.func67, Tryz.ntmps67
      go_wp2
      go_ret
      exact ⟨rfl, HR.out⟩
  · rcases hx with ⟨rfl, rfl⟩ | ⟨rfl, rfl⟩ | ⟨rfl, rfl⟩
    all_goals
      clear eu
      go_enter Tryz.func67, Tryz.ntmps67
      go_wp2_with (go_at_call 61; refine U.mono ?_; rintro e w1 ⟨rfl, d⟩; have HW : Hid (Below w.heap.size w w1) := d; clear d)
      go_ret
      exact ⟨rfl, HW.out⟩
set_option maxHeartbeats 4000000 in
set_option maxRecDepth 10000 in
theorem ptext_any (n : ByteArray) (ng : Bool) (hn : n.size ≤ 140737488355327) (w : World) : Calls Tryz.prog 67 #[.string n, .bool ng] w fun e w' => e = .returned (.string (propT n ng)) ∧ Below w.heap.size w w' := by
  unfold propT
  by_cases c1 : n = ⟨#[100]⟩
  · rw [if_pos c1]; subst c1; exact ptext_letter 100 68 (by simp) ng w
  by_cases c2 : n = ⟨#[119]⟩
  · rw [if_neg c1, if_pos c2]; subst c2; exact ptext_letter 119 87 (by simp) ng w
  by_cases c3 : n = ⟨#[115]⟩
  · rw [if_neg c1, if_neg c2, if_pos c3]; subst c3; exact ptext_letter 115 83 (by simp) ng w
  rw [if_neg c1, if_neg c2, if_neg c3]
  have l1 : (n.toList == [100]) = false := by rw [beq_eq_false_iff_ne]; exact fun h => c1 (upD n _ (by rw [← Lib.toList_data]; exact h))
  have l2 : (n.toList == [119]) = false := by rw [beq_eq_false_iff_ne]; exact fun h => c2 (upD n _ (by rw [← Lib.toList_data]; exact h))
  have l3 : (n.toList == [115]) = false := by rw [beq_eq_false_iff_ne]; exact fun h => c3 (upD n _ (by rw [← Lib.toList_data]; exact h))
  have s1 : ByteArray.size ⟨#[92, 112, 123]⟩ = 3 := rfl
  have s2 : ByteArray.size ⟨#[92, 80, 123]⟩ = 3 := rfl
  have s3 : ByteArray.size ⟨#[125]⟩ = 1 := rfl
  have HR : Hid (Below w.heap.size w w) := Below.refl _ w
  clear c1 c2 c3
  cases ng
  · rw [if_neg (by simp)]
    obtain ⟨Y, hY⟩ : ∃ Y, (⟨#[92, 112, 123]⟩ : ByteArray) ++ n = Y := ⟨_, rfl⟩
    have d1 : Y.size = n.size + 3 := by rw [← hY, ByteArray.size_append, s1]; omega
    rw [hY]
    go_enter Tryz.func67, Tryz.ntmps67
    go_wp2
    go_ret
    exact ⟨rfl, HR.out⟩
  · rw [if_pos rfl]
    obtain ⟨Y, hY⟩ : ∃ Y, (⟨#[92, 80, 123]⟩ : ByteArray) ++ n = Y := ⟨_, rfl⟩
    have d1 : Y.size = n.size + 3 := by rw [← hY, ByteArray.size_append, s2]; omega
    rw [hY]
    go_enter Tryz.func67, Tryz.ntmps67
    go_wp2
    go_ret
    exact ⟨rfl, HR.out⟩
set_option maxHeartbeats 4000000 in
set_option maxRecDepth 10000 in
theorem named_any (X n : ByteArray) (hX : X.size ≤ 9223372036854775807) (w : World) (hm : utf.Marks w) : Calls Tryz.prog 68 #[.string X, .string n] w fun e w' => e = .returned (.bool (namedB X n)) ∧ Below w.heap.size w w' := by
  obtain ⟨W0, cp0, CV0, IB0, hcp0, hcq0, b0⟩ := convB w X hX
  have C2 := tok.scan_any _ X.size cp0 (sfB X) W0 IB0 (hm.below b0) (sfB_in X) hcp0 hcq0
  unfold namedB
  generalize tok.scanL (sfB X) X.size = Q at *
  obtain ⟨L, q, p⟩ := Q
  simp only [] at C2 ⊢
  have HB0 : Hid (Below w.heap.size w W0) := b0
  generalize X.size = N at *
  obtain ⟨r, hr⟩ : ∃ r, ((q == 0) && decide (L.map (fun k => lin.BA k.name) = [n])) = r := ⟨_, rfl⟩
  rw [hr]
  have HRr : Hid (((q == 0) && decide (L.map (fun k => lin.BA k.name) = [n])) = r) := hr
  clear hm IB0 b0 hr
  go_enter Tryz.func68, Tryz.ntmps68
  go_wp2_with fail
  clear CV0
  refine C2.mono ?_
  rintro e w2 ⟨v1, rfl, ho1, hb2⟩
  clear C2
  obtain ⟨ta, tc, rfl, htc, hv⟩ := tok.tok_view ho1
  have HB2 : Hid (Below w.heap.size w (w2.alloc (.cells #[.int .i64 q, .int .i64 (p : Int)] 94))) := (HB0.out.trans (hb2.mono HB0.out.size)).trans ((Below.refl _ w2).alloc (Nat.le_trans HB0.out.size hb2.size) _)
  have HBW : Hid (Below w2.heap.size w2 (w2.alloc (.cells #[.int .i64 q, .int .i64 (p : Int)] 94))) := (Below.refl _ _).alloc (Nat.le_refl _) _
  by_cases hq : q = 0
  · subst hq
    rcases L with _ | ⟨t, _ | ⟨u, L'⟩⟩
    · clear hv ho1 hb2
      have HE : Hid (r = false) := by unfold Hid; rw [← HRr.out]; simp
      clear HRr
      go_wp2
      go_ret
      exact ⟨by rw [HE.out]; rfl, HB2.out⟩
    · obtain ⟨g, rfl, -, hgl, hat⟩ := hv (by simp)
      have A4 := (hat 0 t rfl).below HBW.out
      have a4 := A4.c4
      simp only [Nat.zero_mul, Nat.zero_add] at a4
      have HE : Hid (r = ((lin.BA t.name).toList == n.toList)) := by unfold Hid; rw [← HRr.out, str_eq]; simp
      clear hv ho1 hb2 hat A4 HRr
      generalize lin.BA t.name = Z at *
      go_wp2
      go_ret
      exact ⟨by rw [HE.out]; exact ret_bool (by simp), HB2.out⟩
    · have e1 : ((((t :: u :: L').length : Nat) : Int) == 1) = false := by simp; omega
      have HE : Hid (r = false) := by unfold Hid; rw [← HRr.out]; simp
      clear HRr
      generalize (t :: u :: L').length = m at *
      clear hv ho1 hb2
      go_wp2
      go_ret
      exact ⟨by rw [HE.out]; rfl, HB2.out⟩
  · have f1 : (q == 0) = false := by simpa using hq
    have HE : Hid (r = false) := by unfold Hid; rw [← HRr.out, f1]; rfl
    clear HRr
    generalize L.length = m at *
    clear hv ho1 hb2
    go_wp2
    go_ret
    exact ⟨by rw [HE.out]; rfl, HB2.out⟩
end Go.Proofs.YtbdediacfckpcaaGreatDoor.tre
end

section
/- Endings of the writer's methods, and the writer beside the node that came in. -/
set_option linter.unusedVariables false
set_option linter.unusedSimpArgs false
namespace Go.Proofs.YtbdediacfckpcaaGreatDoor.tre
open Go.RowKit nod
open Go.Proofs.YtbdediacfckpcaaGreatDoor.rng (R RV ret_int ret_bool below_drewN info_parts own_below')
open Go.Proofs.YtbdediacfckpcaaGreatDoor.tok (PEnv TX printL)

theorem met_no {w0 W w' : World} {base g : Nat} {P : Option Wr} (e : P = none) (k : Kt base W w') : Ending.returned (.bool false) = Ending.returned (.bool P.isSome) ∧ (∀ s', P = some s' → Cx w0 w' base g s') ∧ Kt base W w' := by
  subst e; exact ⟨rfl, fun s' e => (by cases e), k⟩
theorem met_ok {w0 W w' : World} {base g : Nat} {P : Option Wr} {s' : Wr} (e : P = some s') (c : Cx w0 w' base g s') (k : Kt base W w') : Ending.returned (.bool true) = Ending.returned (.bool P.isSome) ∧ (∀ s', P = some s' → Cx w0 w' base g s') ∧ Kt base W w' := by
  subst e; exact ⟨rfl, fun s e => (by cases e; exact c), k⟩
/-- The writer s, and beside it the node that a call that began in W keeps in block z. -/
structure Sn (w0 W : World) (base g z : Nat) (box : Array Value) (s : Wr) (w' : World) : Prop where
  cx : Cx w0 w' base g s
  kt : Kt base W w'
  bk : Bk w' z box 25
theorem Sn.start {w0 W : World} {base g : Nat} {s : Wr} (c : Cx w0 W base g s) (box : Array Value) : Sn w0 W base g W.heap.size box s (W.alloc (.cells box 25)) :=
  ⟨c.on ((Below.refl _ W).alloc (Nat.le_refl _) _), c.kt ((Below.refl _ W).alloc (Nat.le_refl _) _), Bk.new W _ _⟩
theorem Sn.quiet {w0 W w' w'' : World} {base g z : Nat} {box : Array Value} {s : Wr} (S : Sn w0 W base g z box s w') (d : Below w'.heap.size w' w'') : Sn w0 W base g z box s w'' :=
  ⟨S.cx.on d, S.kt.trans (S.cx.kt d), S.bk.on d⟩
theorem Sn.wrote {w0 W w' w'' : World} {base g z : Nat} {box : Array Value} {s s' : Wr} (S : Sn w0 W base g z box s w') (k : Kt base w' w'') (c : Cx w0 w'' base g s') : Sn w0 W base g z box s' w'' :=
  ⟨c, S.kt.trans k, Bk.kt S.bk k nodeT.1 nodeT.2.1 nodeT.2.2⟩
theorem Met.sn {f : FuncId} {args : Array Value} {w0 W W' : World} {base g z : Nat} {box : Array Value} {s : Wr} {P : Option Wr} (h : Met f args w0 W' base g P) (S : Sn w0 W base g z box s W') :
    Calls Tryz.prog f args W' fun e w' => e = .returned (.bool P.isSome) ∧ (∀ s', P = some s' → Cx w0 w' base g s') ∧ Kt base W w' := h.mono fun e w' ⟨h1, h2, h3⟩ => ⟨h1, h2, S.kt.trans h3⟩
theorem Met.sn_no {f : FuncId} {args : Array Value} {w0 W W' : World} {base g z : Nat} {box : Array Value} {s : Wr} {P : Option Wr} (h : Met f args w0 W' base g P) (e : P = none) (S : Sn w0 W base g z box s W') :
    Calls Tryz.prog f args W' fun e w' => e = .returned (.bool false) ∧ Kt base W w' := (h.no e).mono fun e w' ⟨h1, h3⟩ => ⟨h1, S.kt.trans h3⟩
theorem Met.sn_ok {f : FuncId} {args : Array Value} {w0 W W' : World} {base g z : Nat} {box : Array Value} {s s' : Wr} {P : Option Wr} (h : Met f args w0 W' base g P) (e : P = some s') (S : Sn w0 W base g z box s W') :
    Calls Tryz.prog f args W' fun e w' => e = .returned (.bool true) ∧ Sn w0 W base g z box s' w' := (h.ok e).mono fun e w' ⟨h1, h2, h3⟩ => ⟨h1, S.wrote h3 h2⟩
theorem quiet_of {f : FuncId} {args : Array Value} {v : Value} {w0 W W' : World} {base g z : Nat} {box : Array Value} {s : Wr} (S : Sn w0 W base g z box s W') (h : Calls Tryz.prog f args W' fun e w' => e = .returned v ∧ Below W'.heap.size W' w') :
    Calls Tryz.prog f args W' fun e w' => e = .returned v ∧ Sn w0 W base g z box s w' := h.mono fun e w' ⟨h1, h2⟩ => ⟨h1, S.quiet h2⟩
theorem still_of {f : FuncId} {args : Array Value} {v : Value} {w0 W W' : World} {base g z : Nat} {box : Array Value} {s : Wr} (S : Sn w0 W base g z box s W') (h : Calls Tryz.prog f args W' fun e w' => e = .returned v ∧ w' = W') :
    Calls Tryz.prog f args W' fun e w' => e = .returned v ∧ Sn w0 W base g z box s w' := h.mono fun e w' ⟨h1, h2⟩ => ⟨h1, by rw [h2]; exact S⟩
/-- A kid's cells. -/
theorem Sn.kid {w0 W w' : World} {base g z : Nat} {box : Array Value} {s : Wr} (S : Sn w0 W base g z box s w') {kb ko : Nat} {c0 c1 c2 c3 c4 c5 c6 c7 : Value} (h : At8 w0 kb ko (.agg #[c0, c1, c2, c3, c4, c5, c6, c7])) (hk : kb < base) :
    w'.cell? ⟨kb, ko, none⟩ = some c0 ∧ w'.cell? ⟨kb, ko + 1, none⟩ = some c1 ∧ w'.cell? ⟨kb, ko + 2, none⟩ = some c2 ∧ w'.cell? ⟨kb, ko + 3, none⟩ = some c3 ∧ w'.cell? ⟨kb, ko + 4, none⟩ = some c4 ∧ w'.cell? ⟨kb, ko + 5, none⟩ = some c5 ∧ w'.cell? ⟨kb, ko + 6, none⟩ = some c6 ∧ w'.cell? ⟨kb, ko + 7, none⟩ = some c7 := by
  obtain ⟨_, _, _, _, _, _, _, _, ee, k0, k1, k2, k3, k4, k5, k6, k7⟩ := h.below S.cx.c.bel hk
  simp only [Value.agg.injEq, Array.mk.injEq, List.cons.injEq, and_true] at ee
  obtain ⟨rfl, rfl, rfl, rfl, rfl, rfl, rfl, rfl⟩ := ee
  exact ⟨k0, k1, k2, k3, k4, k5, k6, k7⟩
/-- othersZero beside the writer. -/
theorem oz_sn {w0 W W' : World} {base g z : Nat} {box : Array Value} {s : Wr} (S : Sn w0 W base g z box s W') (k m a b : Int) (ng : Bool) (n : ByteArray) (st : List R) (ks : List Nd) (sa : Option Addr) (sl sc : Nat) (ao : Option Addr) (nk cap : Nat) (hsl : st.length = sl) (hnk : ks.length = nk) (q : Bool) (hq : othersZ (.mk k m a b ng n st ks) = q) :
    Calls Tryz.prog 38 #[.agg #[.int .i64 k, .int .i64 m, .int .i64 a, .int .i64 b, .bool ng, .string n, .slice sa sl sc, .slice ao nk cap]] W' fun e w' => e = .returned (.bool q) ∧ Sn w0 W base g z box s w' := by
  rw [← hq]; exact quiet_of S (oz_any k m a b ng n st ks sa sl sc ao nk cap W' hsl hnk)
end Go.Proofs.YtbdediacfckpcaaGreatDoor.tre
end

section
/- property, class, members and member of tree's writer. -/
set_option linter.unusedVariables false
set_option linter.unusedSimpArgs false
namespace Go.Proofs.YtbdediacfckpcaaGreatDoor.tre
open Go.RowKit nod
open Go.Proofs.YtbdediacfckpcaaGreatDoor.rng (R RV ret_int ret_bool below_drewN info_parts own_below')
open Go.Proofs.YtbdediacfckpcaaGreatDoor.tok (PEnv TX printL)

set_option maxRecDepth 10000 in
set_option maxHeartbeats 2000000 in
theorem property_w {w0 W : World} {base g : Nat} {s : Wr} (c : Cx w0 W base g s) (k m a b : Int) (ng : Bool) (n : ByteArray) (sa : Option Addr) (sl sc : Nat) (ao : Option Addr) (nk cap : Nat) (hn : n.size ≤ 140737488355327) : Met 50 #[.pointer (some ⟨g, 0, none⟩), .agg #[.int .i64 k, .int .i64 m, .int .i64 a, .int .i64 b, .bool ng, .string n, .slice sa sl sc, .slice ao nk cap]] w0 W base g (propO s n ng) := by
  have HS : Hid (Sn w0 W base g W.heap.size #[.int .i64 k, .int .i64 m, .int .i64 a, .int .i64 b, .bool ng, .string n, .slice sa sl sc, .slice ao nk cap] s (W.alloc (.cells #[.int .i64 k, .int .i64 m, .int .i64 a, .int .i64 b, .bool ng, .string n, .slice sa sl sc, .slice ao nk cap] 25))) := Sn.start c _
  have hT := propT_size n ng hn
  have HN0 : Hid (∀ W', Sn w0 W base g W.heap.size #[.int .i64 k, .int .i64 m, .int .i64 a, .int .i64 b, .bool ng, .string n, .slice sa sl sc, .slice ao nk cap] s W' → Calls Tryz.prog 67 #[.string n, .bool ng] W' fun e w' => e = .returned (.string (propT n ng)) ∧ Sn w0 W base g W.heap.size #[.int .i64 k, .int .i64 m, .int .i64 a, .int .i64 b, .bool ng, .string n, .slice sa sl sc, .slice ao nk cap] s w') := fun W' S => quiet_of S (ptext_any n ng hn W')
  have HN : Hid (∀ W', Sn w0 W base g W.heap.size #[.int .i64 k, .int .i64 m, .int .i64 a, .int .i64 b, .bool ng, .string n, .slice sa sl sc, .slice ao nk cap] s W' → Calls Tryz.prog 68 #[.string (propT n ng), .string n] W' fun e w' => e = .returned (.bool (namedB (propT n ng) n)) ∧ Sn w0 W base g W.heap.size #[.int .i64 k, .int .i64 m, .int .i64 a, .int .i64 b, .bool ng, .string n, .slice sa sl sc, .slice ao nk cap] s w') := fun W' S => quiet_of S (named_any _ n (by omega) W' S.cx.c.penv.mks)
  have HP : Hid (∀ W', Sn w0 W base g W.heap.size #[.int .i64 k, .int .i64 m, .int .i64 a, .int .i64 b, .bool ng, .string n, .slice sa sl sc, .slice ao nk cap] s W' → Calls Tryz.prog 40 #[.pointer (some ⟨g, 0, none⟩), .string (propT n ng)] W' fun e w' => e = .returned (.bool (putO s (propT n ng)).isSome) ∧ (∀ s', putO s (propT n ng) = some s' → Cx w0 w' base g s') ∧ Kt base W w') := fun W' S => Met.sn (put_met S.cx _ (by omega)) S
  unfold Met propO
  generalize propT n ng = T at *
  cases hq : namedB T n with
  | false =>
    rw [hq] at HN
    rw [if_neg (by simp)]
    clear c HP hq
    go_enter Tryz.func50, Tryz.ntmps50
    go_wp2_with (first
      | (go_at_call 67; refine (HN0.out _ HS.out).mono ?_; rintro e w1 ⟨rfl, d⟩; have HS1 : Hid (Sn w0 W base g W.heap.size #[.int .i64 k, .int .i64 m, .int .i64 a, .int .i64 b, .bool ng, .string n, .slice sa sl sc, .slice ao nk cap] s w1) := d; have x0 := d.bk.cell 0 (u := .int .i64 k) rfl; have x1 := d.bk.cell 1 (u := .int .i64 m) rfl; have x2 := d.bk.cell 2 (u := .int .i64 a) rfl; have x3 := d.bk.cell 3 (u := .int .i64 b) rfl; have x4 := d.bk.cell 4 (u := .bool ng) rfl; have x5 := d.bk.cell 5 (u := .string n) rfl; have x6 := d.bk.cell 6 (u := .slice sa sl sc) rfl; have x7 := d.bk.cell 7 (u := .slice ao nk cap) rfl; clear d)
      | (go_at_call 68; refine (HN.out _ HS1.out).mono ?_; rintro e w2 ⟨rfl, d⟩; have HS2 : Hid (Sn w0 W base g W.heap.size #[.int .i64 k, .int .i64 m, .int .i64 a, .int .i64 b, .bool ng, .string n, .slice sa sl sc, .slice ao nk cap] s w2) := d; clear d))
    go_ret
    exact met_no (rfl) HS2.out.kt
  | true =>
    rw [hq] at HN
    rw [if_pos rfl]
    clear c hq
    generalize putO s T = P at *
    go_enter Tryz.func50, Tryz.ntmps50
    go_wp2_with (first
      | (go_at_call 67; refine (HN0.out _ HS.out).mono ?_; rintro e w1 ⟨rfl, d⟩; have HS1 : Hid (Sn w0 W base g W.heap.size #[.int .i64 k, .int .i64 m, .int .i64 a, .int .i64 b, .bool ng, .string n, .slice sa sl sc, .slice ao nk cap] s w1) := d; have x0 := d.bk.cell 0 (u := .int .i64 k) rfl; have x1 := d.bk.cell 1 (u := .int .i64 m) rfl; have x2 := d.bk.cell 2 (u := .int .i64 a) rfl; have x3 := d.bk.cell 3 (u := .int .i64 b) rfl; have x4 := d.bk.cell 4 (u := .bool ng) rfl; have x5 := d.bk.cell 5 (u := .string n) rfl; have x6 := d.bk.cell 6 (u := .slice sa sl sc) rfl; have x7 := d.bk.cell 7 (u := .slice ao nk cap) rfl; clear d)
      | (go_at_call 68; refine (HN.out _ HS1.out).mono ?_; rintro e w2 ⟨rfl, d⟩; have HS2 : Hid (Sn w0 W base g W.heap.size #[.int .i64 k, .int .i64 m, .int .i64 a, .int .i64 b, .bool ng, .string n, .slice sa sl sc, .slice ao nk cap] s w2) := d; clear d)
      | (go_at_call 40; refine (HP.out _ HS2.out).mono ?_; rintro e w3 ⟨rfl, d1, d2⟩; have HT1 : Hid (∀ s', _ = some s' → Cx w0 w3 base g s') := d1; have HT2 : Hid (Kt base W w3) := d2; clear d1 d2))
    go_ret
    exact ⟨ret_bool (by first | rfl | simp), HT1.out, HT2.out⟩
set_option maxRecDepth 10000 in
set_option maxHeartbeats 2000000 in
theorem class_false {w0 W : World} {base g : Nat} {s : Wr} (c : Cx w0 W base g s) (k m a b : Int) (n : ByteArray) (sa : Option Addr) (sl sc : Nat) (ao : Option Addr) (nk cap : Nat) (Pi : Wr → Option Wr) (HI : Hid (∀ W' s', Cx w0 W' base g s' → Met 65 #[.pointer (some ⟨g, 0, none⟩), .agg #[.int .i64 k, .int .i64 m, .int .i64 a, .int .i64 b, .bool false, .string n, .slice sa sl sc, .slice ao nk cap]] w0 W' base g (Pi s'))) (hd : ∀ s1 s2, Pi s1 = some s2 → Gd s1 → s2.depth = s1.depth) : Met 49 #[.pointer (some ⟨g, 0, none⟩), .agg #[.int .i64 k, .int .i64 m, .int .i64 a, .int .i64 b, .bool false, .string n, .slice sa sl sc, .slice ao nk cap]] w0 W base g ((enterO s ⟨#[91]⟩).bind fun s1 => (Pi s1).bind fun s2 => leaveO s2 ⟨#[93]⟩) := by
  have HS : Hid (Sn w0 W base g W.heap.size #[.int .i64 k, .int .i64 m, .int .i64 a, .int .i64 b, .bool false, .string n, .slice sa sl sc, .slice ao nk cap] s (W.alloc (.cells #[.int .i64 k, .int .i64 m, .int .i64 a, .int .i64 b, .bool false, .string n, .slice sa sl sc, .slice ao nk cap] 25))) := Sn.start c _
  unfold Met
  cases h1 : enterO s ⟨#[91]⟩ with
  | none =>
    have HE : Hid (∀ W', Sn w0 W base g W.heap.size #[.int .i64 k, .int .i64 m, .int .i64 a, .int .i64 b, .bool false, .string n, .slice sa sl sc, .slice ao nk cap] s W' → Calls Tryz.prog 64 #[.pointer (some ⟨g, 0, none⟩), .string ⟨#[91]⟩] W' fun e w' => e = .returned (.bool false) ∧ Kt base W w') := fun W' S => Met.sn_no (enter_met S.cx _ (by decide)) h1 S
    clear c h1
    go_enter Tryz.func49, Tryz.ntmps49
    go_wp2_with (first
      | (go_at_call 64; refine (HE.out _ HS.out).mono ?_; rintro e w1 ⟨rfl, d⟩; have HZ : Hid (Kt base W w1) := d; clear d))
    go_ret
    exact met_no (rfl) HZ.out
  | some s1 =>
    have HE : Hid (∀ W', Sn w0 W base g W.heap.size #[.int .i64 k, .int .i64 m, .int .i64 a, .int .i64 b, .bool false, .string n, .slice sa sl sc, .slice ao nk cap] s W' → Calls Tryz.prog 64 #[.pointer (some ⟨g, 0, none⟩), .string ⟨#[91]⟩] W' fun e w' => e = .returned (.bool true) ∧ Sn w0 W base g W.heap.size #[.int .i64 k, .int .i64 m, .int .i64 a, .int .i64 b, .bool false, .string n, .slice sa sl sc, .slice ao nk cap] s1 w') := fun W' S => Met.sn_ok (enter_met S.cx _ (by decide)) h1 S
    have hg := enter_gd h1 c.gd
    simp only [Option.bind_some]
    cases h2 : Pi s1 with
    | none =>
      have HJ : Hid (∀ W', Sn w0 W base g W.heap.size #[.int .i64 k, .int .i64 m, .int .i64 a, .int .i64 b, .bool false, .string n, .slice sa sl sc, .slice ao nk cap] s1 W' → Calls Tryz.prog 65 #[.pointer (some ⟨g, 0, none⟩), .agg #[.int .i64 k, .int .i64 m, .int .i64 a, .int .i64 b, .bool false, .string n, .slice sa sl sc, .slice ao nk cap]] W' fun e w' => e = .returned (.bool false) ∧ Kt base W w') := fun W' S => Met.sn_no (HI.out W' s1 S.cx) h2 S
      clear c h1 h2 HI hg
      go_enter Tryz.func49, Tryz.ntmps49
      go_wp2_with (first
        | (go_at_call 64; refine (HE.out _ HS.out).mono ?_; rintro e w1 ⟨rfl, d⟩; have HS1 : Hid (Sn w0 W base g W.heap.size #[.int .i64 k, .int .i64 m, .int .i64 a, .int .i64 b, .bool false, .string n, .slice sa sl sc, .slice ao nk cap] s1 w1) := d; have x0 := d.bk.cell 0 (u := .int .i64 k) rfl; have x1 := d.bk.cell 1 (u := .int .i64 m) rfl; have x2 := d.bk.cell 2 (u := .int .i64 a) rfl; have x3 := d.bk.cell 3 (u := .int .i64 b) rfl; have x4 := d.bk.cell 4 (u := .bool false) rfl; have x5 := d.bk.cell 5 (u := .string n) rfl; have x6 := d.bk.cell 6 (u := .slice sa sl sc) rfl; have x7 := d.bk.cell 7 (u := .slice ao nk cap) rfl; clear d)
        | (go_at_call 65; refine (HJ.out _ HS1.out).mono ?_; rintro e w2 ⟨rfl, d⟩; have HZ : Hid (Kt base W w2) := d; clear d))
      go_ret
      exact met_no (rfl) HZ.out
    | some s2 =>
      have HJ : Hid (∀ W', Sn w0 W base g W.heap.size #[.int .i64 k, .int .i64 m, .int .i64 a, .int .i64 b, .bool false, .string n, .slice sa sl sc, .slice ao nk cap] s1 W' → Calls Tryz.prog 65 #[.pointer (some ⟨g, 0, none⟩), .agg #[.int .i64 k, .int .i64 m, .int .i64 a, .int .i64 b, .bool false, .string n, .slice sa sl sc, .slice ao nk cap]] W' fun e w' => e = .returned (.bool true) ∧ Sn w0 W base g W.heap.size #[.int .i64 k, .int .i64 m, .int .i64 a, .int .i64 b, .bool false, .string n, .slice sa sl sc, .slice ao nk cap] s2 w') := fun W' S => Met.sn_ok (HI.out W' s1 S.cx) h2 S
      have hd2 := hd s1 s2 h2 hg.1
      have hl : 1 ≤ s2.depth := by have := hg.2; have := c.gd.g.d0; omega
      simp only [Option.bind_some]
      have HL : Hid (∀ W', Sn w0 W base g W.heap.size #[.int .i64 k, .int .i64 m, .int .i64 a, .int .i64 b, .bool false, .string n, .slice sa sl sc, .slice ao nk cap] s2 W' → Calls Tryz.prog 66 #[.pointer (some ⟨g, 0, none⟩), .string ⟨#[93]⟩] W' fun e w' => e = .returned (.bool (leaveO s2 ⟨#[93]⟩).isSome) ∧ (∀ s', leaveO s2 ⟨#[93]⟩ = some s' → Cx w0 w' base g s') ∧ Kt base W w') := fun W' S => Met.sn (leave_met S.cx hl _ (by decide)) S
      generalize leaveO s2 ⟨#[93]⟩ = P at *
      clear c h1 h2 HI hg hd2 hl
      go_enter Tryz.func49, Tryz.ntmps49
      go_wp2_with (first
        | (go_at_call 64; refine (HE.out _ HS.out).mono ?_; rintro e w1 ⟨rfl, d⟩; have HS1 : Hid (Sn w0 W base g W.heap.size #[.int .i64 k, .int .i64 m, .int .i64 a, .int .i64 b, .bool false, .string n, .slice sa sl sc, .slice ao nk cap] s1 w1) := d; have x0 := d.bk.cell 0 (u := .int .i64 k) rfl; have x1 := d.bk.cell 1 (u := .int .i64 m) rfl; have x2 := d.bk.cell 2 (u := .int .i64 a) rfl; have x3 := d.bk.cell 3 (u := .int .i64 b) rfl; have x4 := d.bk.cell 4 (u := .bool false) rfl; have x5 := d.bk.cell 5 (u := .string n) rfl; have x6 := d.bk.cell 6 (u := .slice sa sl sc) rfl; have x7 := d.bk.cell 7 (u := .slice ao nk cap) rfl; clear d)
        | (go_at_call 65; refine (HJ.out _ HS1.out).mono ?_; rintro e w2 ⟨rfl, d⟩; have HS2 : Hid (Sn w0 W base g W.heap.size #[.int .i64 k, .int .i64 m, .int .i64 a, .int .i64 b, .bool false, .string n, .slice sa sl sc, .slice ao nk cap] s2 w2) := d; clear d)
        | (go_at_call 66; refine (HL.out _ HS2.out).mono ?_; rintro e w3 ⟨rfl, d1, d2⟩; have HT1 : Hid (∀ s', _ = some s' → Cx w0 w3 base g s') := d1; have HT2 : Hid (Kt base W w3) := d2; clear d1 d2))
      go_ret
      exact ⟨ret_bool (by first | rfl | simp), HT1.out, HT2.out⟩
set_option maxRecDepth 10000 in
set_option maxHeartbeats 2000000 in
theorem class_true {w0 W : World} {base g : Nat} {s : Wr} (c : Cx w0 W base g s) (k m a b : Int) (n : ByteArray) (sa : Option Addr) (sl sc : Nat) (ao : Option Addr) (nk cap : Nat) (Pi : Wr → Option Wr) (HI : Hid (∀ W' s', Cx w0 W' base g s' → Met 65 #[.pointer (some ⟨g, 0, none⟩), .agg #[.int .i64 k, .int .i64 m, .int .i64 a, .int .i64 b, .bool true, .string n, .slice sa sl sc, .slice ao nk cap]] w0 W' base g (Pi s'))) (hd : ∀ s1 s2, Pi s1 = some s2 → Gd s1 → s2.depth = s1.depth) : Met 49 #[.pointer (some ⟨g, 0, none⟩), .agg #[.int .i64 k, .int .i64 m, .int .i64 a, .int .i64 b, .bool true, .string n, .slice sa sl sc, .slice ao nk cap]] w0 W base g ((enterO s ⟨#[91, 94]⟩).bind fun s1 => (Pi s1).bind fun s2 => leaveO s2 ⟨#[93]⟩) := by
  have HS : Hid (Sn w0 W base g W.heap.size #[.int .i64 k, .int .i64 m, .int .i64 a, .int .i64 b, .bool true, .string n, .slice sa sl sc, .slice ao nk cap] s (W.alloc (.cells #[.int .i64 k, .int .i64 m, .int .i64 a, .int .i64 b, .bool true, .string n, .slice sa sl sc, .slice ao nk cap] 25))) := Sn.start c _
  unfold Met
  cases h1 : enterO s ⟨#[91, 94]⟩ with
  | none =>
    have HE : Hid (∀ W', Sn w0 W base g W.heap.size #[.int .i64 k, .int .i64 m, .int .i64 a, .int .i64 b, .bool true, .string n, .slice sa sl sc, .slice ao nk cap] s W' → Calls Tryz.prog 64 #[.pointer (some ⟨g, 0, none⟩), .string ⟨#[91, 94]⟩] W' fun e w' => e = .returned (.bool false) ∧ Kt base W w') := fun W' S => Met.sn_no (enter_met S.cx _ (by decide)) h1 S
    clear c h1
    go_enter Tryz.func49, Tryz.ntmps49
    go_wp2_with (first
      | (go_at_call 64; refine (HE.out _ HS.out).mono ?_; rintro e w1 ⟨rfl, d⟩; have HZ : Hid (Kt base W w1) := d; clear d))
    go_ret
    exact met_no (rfl) HZ.out
  | some s1 =>
    have HE : Hid (∀ W', Sn w0 W base g W.heap.size #[.int .i64 k, .int .i64 m, .int .i64 a, .int .i64 b, .bool true, .string n, .slice sa sl sc, .slice ao nk cap] s W' → Calls Tryz.prog 64 #[.pointer (some ⟨g, 0, none⟩), .string ⟨#[91, 94]⟩] W' fun e w' => e = .returned (.bool true) ∧ Sn w0 W base g W.heap.size #[.int .i64 k, .int .i64 m, .int .i64 a, .int .i64 b, .bool true, .string n, .slice sa sl sc, .slice ao nk cap] s1 w') := fun W' S => Met.sn_ok (enter_met S.cx _ (by decide)) h1 S
    have hg := enter_gd h1 c.gd
    simp only [Option.bind_some]
    cases h2 : Pi s1 with
    | none =>
      have HJ : Hid (∀ W', Sn w0 W base g W.heap.size #[.int .i64 k, .int .i64 m, .int .i64 a, .int .i64 b, .bool true, .string n, .slice sa sl sc, .slice ao nk cap] s1 W' → Calls Tryz.prog 65 #[.pointer (some ⟨g, 0, none⟩), .agg #[.int .i64 k, .int .i64 m, .int .i64 a, .int .i64 b, .bool true, .string n, .slice sa sl sc, .slice ao nk cap]] W' fun e w' => e = .returned (.bool false) ∧ Kt base W w') := fun W' S => Met.sn_no (HI.out W' s1 S.cx) h2 S
      clear c h1 h2 HI hg
      go_enter Tryz.func49, Tryz.ntmps49
      go_wp2_with (first
        | (go_at_call 64; refine (HE.out _ HS.out).mono ?_; rintro e w1 ⟨rfl, d⟩; have HS1 : Hid (Sn w0 W base g W.heap.size #[.int .i64 k, .int .i64 m, .int .i64 a, .int .i64 b, .bool true, .string n, .slice sa sl sc, .slice ao nk cap] s1 w1) := d; have x0 := d.bk.cell 0 (u := .int .i64 k) rfl; have x1 := d.bk.cell 1 (u := .int .i64 m) rfl; have x2 := d.bk.cell 2 (u := .int .i64 a) rfl; have x3 := d.bk.cell 3 (u := .int .i64 b) rfl; have x4 := d.bk.cell 4 (u := .bool true) rfl; have x5 := d.bk.cell 5 (u := .string n) rfl; have x6 := d.bk.cell 6 (u := .slice sa sl sc) rfl; have x7 := d.bk.cell 7 (u := .slice ao nk cap) rfl; clear d)
        | (go_at_call 65; refine (HJ.out _ HS1.out).mono ?_; rintro e w2 ⟨rfl, d⟩; have HZ : Hid (Kt base W w2) := d; clear d))
      go_ret
      exact met_no (rfl) HZ.out
    | some s2 =>
      have HJ : Hid (∀ W', Sn w0 W base g W.heap.size #[.int .i64 k, .int .i64 m, .int .i64 a, .int .i64 b, .bool true, .string n, .slice sa sl sc, .slice ao nk cap] s1 W' → Calls Tryz.prog 65 #[.pointer (some ⟨g, 0, none⟩), .agg #[.int .i64 k, .int .i64 m, .int .i64 a, .int .i64 b, .bool true, .string n, .slice sa sl sc, .slice ao nk cap]] W' fun e w' => e = .returned (.bool true) ∧ Sn w0 W base g W.heap.size #[.int .i64 k, .int .i64 m, .int .i64 a, .int .i64 b, .bool true, .string n, .slice sa sl sc, .slice ao nk cap] s2 w') := fun W' S => Met.sn_ok (HI.out W' s1 S.cx) h2 S
      have hd2 := hd s1 s2 h2 hg.1
      have hl : 1 ≤ s2.depth := by have := hg.2; have := c.gd.g.d0; omega
      simp only [Option.bind_some]
      have HL : Hid (∀ W', Sn w0 W base g W.heap.size #[.int .i64 k, .int .i64 m, .int .i64 a, .int .i64 b, .bool true, .string n, .slice sa sl sc, .slice ao nk cap] s2 W' → Calls Tryz.prog 66 #[.pointer (some ⟨g, 0, none⟩), .string ⟨#[93]⟩] W' fun e w' => e = .returned (.bool (leaveO s2 ⟨#[93]⟩).isSome) ∧ (∀ s', leaveO s2 ⟨#[93]⟩ = some s' → Cx w0 w' base g s') ∧ Kt base W w') := fun W' S => Met.sn (leave_met S.cx hl _ (by decide)) S
      generalize leaveO s2 ⟨#[93]⟩ = P at *
      clear c h1 h2 HI hg hd2 hl
      go_enter Tryz.func49, Tryz.ntmps49
      go_wp2_with (first
        | (go_at_call 64; refine (HE.out _ HS.out).mono ?_; rintro e w1 ⟨rfl, d⟩; have HS1 : Hid (Sn w0 W base g W.heap.size #[.int .i64 k, .int .i64 m, .int .i64 a, .int .i64 b, .bool true, .string n, .slice sa sl sc, .slice ao nk cap] s1 w1) := d; have x0 := d.bk.cell 0 (u := .int .i64 k) rfl; have x1 := d.bk.cell 1 (u := .int .i64 m) rfl; have x2 := d.bk.cell 2 (u := .int .i64 a) rfl; have x3 := d.bk.cell 3 (u := .int .i64 b) rfl; have x4 := d.bk.cell 4 (u := .bool true) rfl; have x5 := d.bk.cell 5 (u := .string n) rfl; have x6 := d.bk.cell 6 (u := .slice sa sl sc) rfl; have x7 := d.bk.cell 7 (u := .slice ao nk cap) rfl; clear d)
        | (go_at_call 65; refine (HJ.out _ HS1.out).mono ?_; rintro e w2 ⟨rfl, d⟩; have HS2 : Hid (Sn w0 W base g W.heap.size #[.int .i64 k, .int .i64 m, .int .i64 a, .int .i64 b, .bool true, .string n, .slice sa sl sc, .slice ao nk cap] s2 w2) := d; clear d)
        | (go_at_call 66; refine (HL.out _ HS2.out).mono ?_; rintro e w3 ⟨rfl, d1, d2⟩; have HT1 : Hid (∀ s', _ = some s' → Cx w0 w3 base g s') := d1; have HT2 : Hid (Kt base W w3) := d2; clear d1 d2))
      go_ret
      exact ⟨ret_bool (by first | rfl | simp), HT1.out, HT2.out⟩
end Go.Proofs.YtbdediacfckpcaaGreatDoor.tre
end
