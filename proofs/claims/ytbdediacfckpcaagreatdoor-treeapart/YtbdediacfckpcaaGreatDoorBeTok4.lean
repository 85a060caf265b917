/- Texts that the proof leans on, one behind the other. -/
import Derived.Test.YtbdediacfckpcaaGreatDoorBeTok3
import Derived.Test.YtbdediacfckpcaaGreatDoorBeNam2
import Derived.Laws.BytesArg
import Derived.Deep.LoopGhost
import Derived.Test.YtbdediacfckpcaaGreatDoorBeUtf1

section
/- Repetitions by numbers. -/
set_option linter.unusedVariables false
set_option linter.unusedSimpArgs false
namespace Go.Proofs.YtbdediacfckpcaaGreatDoor.tok
open Go.RowKit
open lin (BA Turns)

theorem octet_val {f : Nat → Int} {n a : Nat} {c : Int} {a' : Nat} (h : octet f n a = .ok c a') : a < n ∧ c = f a ∧ a' = a + 1 := by
  unfold octet at h; split at h
  · rename_i hl; cases h; exact ⟨hl, rfl, rfl⟩
  · cases h
theorem numR_pos (f : Nat → Int) (n st : Nat) (base : Int) (hb : base = 10 ∨ base = 16) (hf : ∀ i, 0 ≤ f i ∧ f i ≤ 255) : ∀ left acc first a q a', 0 ≤ acc → numR f n st base left acc first a = .ok q a' → 0 ≤ q.1 := by
  intro left
  induction left with
  | zero =>
    intro acc first a q a' ha h
    rw [numR_step] at h
    cases ho : octet f n a with
    | no c p => rw [ho] at h; cases h
    | ok c a1 =>
      rw [ho, bind_ok] at h
      split at h
      · cases h
      · split at h
        · cases h
        · cases h; exact ha
  | succ l ih =>
    intro acc first a q a' ha h
    rw [numR_step] at h
    cases ho : octet f n a with
    | no c p => rw [ho] at h; cases h
    | ok c a1 =>
      rw [ho, bind_ok] at h
      split at h
      · rename_i hd
        obtain ⟨_, hc, _⟩ := octet_val ho
        have := dg_small c base (by rw [hc]; exact (hf a).1) hd hb
        refine ih _ _ _ _ _ ?_ h
        rcases hb with e | e <;> (rw [e] at this ⊢; omega)
      · split at h
        · cases h
        · cases h; exact ha
theorem number_pos {f : Nat → Int} {n st : Nat} {base : Int} {most a : Nat} {q : Int × Int} {a' : Nat} (hb : base = 10 ∨ base = 16) (hf : ∀ i, 0 ≤ f i ∧ f i ≤ 255) (h : number f n st base most a = .ok q a') : 0 ≤ q.1 := numR_pos f n st base hb hf most 0 true a q a' (by decide) h
set_option maxHeartbeats 8000000 in
set_option maxRecDepth 100000 in
theorem counted_any (sb : Nat) (ao : Option Addr) (n cap : Nat) (f : Nat → Int) (a st k : Nat) (tv : Value) (w : World) (h : Sc w sb ao n cap f a st k tv) :
    Calls Tryz.prog 153 #[.pointer (some ⟨sb, 0, none⟩)] w (End w sb ao n cap f st k tv Tk.val (counted f n st a)) := by
  have hlt := h.lt
  have hgn : w.heap.size ≠ sb := by omega
  have hgn' : ¬ w.heap.size = sb := by omega
  have hgn2 : ¬ sb = w.heap.size := by omega
  have S0 := h.alloc (.cells #[.int .i64 0, .int .i64 0, .int .i64 0, .int .i64 0, .string ⟨#[]⟩, .bool false, .int .i64 0, .int .i64 0] 98)
  have T0 : Tn sb w _ := Tn.more (lin.Turns.refl _ w) (.cells #[.int .i64 0, .int .i64 0, .int .i64 0, .int .i64 0, .string ⟨#[]⟩, .bool false, .int .i64 0, .int .i64 0] 98)
  have G0 : (w.alloc (.cells #[.int .i64 0, .int .i64 0, .int .i64 0, .int .i64 0, .string ⟨#[]⟩, .bool false, .int .i64 0, .int .i64 0] 98)).heap[w.heap.size]? = some (.cells #[.int .i64 0, .int .i64 0, .int .i64 0, .int .i64 0, .string ⟨#[]⟩, .bool false, .int .i64 0, .int .i64 0] 98 (0, 0)) := World.alloc_heap_new _ _
  obtain ⟨R, hR⟩ : ∃ R, counted f n st a = R := ⟨_, rfl⟩
  rw [hR]
  have HR : Hid (counted f n st a = R) := hR
  clear hR
  have HF : Hid (∀ i, 0 ≤ f i ∧ f i ≤ 255) := h.ff
  go_enter Tryz.func153, Tryz.ntmps153
  have C := number_any sb ao n cap f a st k tv _ S0 10 3 (by decide) (by decide)
  obtain ⟨o, ho⟩ : ∃ o, number f n st 10 3 a = o := ⟨_, rfl⟩
  rw [ho] at C
  have O01 : Hid (number f n st 10 3 a = o) := ho
  clear ho
  go_wp2_with fail
  refine C.mono ?_
  intro e w1 H
  clear C
  cases o with
  | no q p =>
    obtain ⟨rfl, ⟨a', k', S'⟩, T'⟩ := H
    obtain rfl : R = .no q p := by rw [← HR.out]; simp [counted, bind_ok, bind_no, O01.out]
    have T'' := T0.trans T'
    go_wp2
    exact ⟨rfl, rfl, ⟨_, _, S'⟩, T''⟩
  | ok q a1 =>
    obtain ⟨rfl, S1, T'⟩ := H
    have T1 := T0.trans T'
    have G1 := Tn.blk T' G0 hgn
    clear T' S0 T0 G0
    have hx0 := number_pos (by decide) HF.out O01.out
    obtain ⟨x, m⟩ := q
    unfold nv
    simp only [] at hx0 ⊢
    by_cases h44 : m = 44
    ·
      subst h44
      have C := accept_any sb ao n cap f (a1) st k tv _ S1 125
      obtain ⟨b, hq⟩ : ∃ b, at_ f n (a1) 125 = b := ⟨_, rfl⟩
      rw [hq] at C
      have Q12 : Hid (at_ f n (a1) 125 = b) := hq
      clear hq
      go_wp2_with fail
      refine C.mono ?_
      rintro e w2 ⟨rfl, S2, T⟩
      have T2 := T1.trans T
      have G2 := Tn.blk T G1 hgn
      clear C T S1 T1 G1
      cases b with
      | true =>
        rw [if_pos rfl] at S2
        by_cases hx : x ≤ 100
        ·
          have hx2 : ¬ 100 < x := by omega
          have C := repeat_any sb ao n cap f (a1 + 1) st k tv _ S2 x (-1)
          obtain ⟨o, ho⟩ : ∃ o, rep f n x (-1) (a1 + 1) = o := ⟨_, rfl⟩
          rw [ho] at C
          obtain rfl : R = o := by rw [← HR.out, ← ho]; simp [counted, bind_ok, bind_no, O01.out, Q12.out, cntOk, hx]
          clear HR ho
          go_wp2_with fail
          refine C.mono ?_
          intro e w3 H
          clear C
          cases R with
          | no q p =>
            obtain ⟨rfl, ⟨a', k', S'⟩, T'⟩ := H
            have T'' := T2.trans T'
            go_wp2
            exact ⟨rfl, rfl, ⟨_, _, S'⟩, T''⟩
          | ok t a9 =>
            obtain ⟨rfl, S3, T'⟩ := H
            have T3 := T2.trans T'
            have G3 := Tn.blk T' G2 hgn
            clear T' S2 T2 G2
            obtain ⟨t1, t2, t3, t4, t5, t6, t7, t8⟩ := t
            unfold Tk.val
            obtain ⟨⟨k0, k1, k2, k3, k4, k5, k6, k7⟩, ⟨f0, f1, f2, f3, f4, f5, f6, f7⟩⟩ := blk8 G3
            go_wp2
            obtain ⟨GF, SF, TF⟩ := set8 h S3 T3 G3 (Nat.le_refl _) (.int .i64 t1) (.int .i64 t2) (.int .i64 t3) (.int .i64 t4) (.string (BA t5)) (.bool t6) (.int .i64 (t7 : Int)) (.int .i64 (t8 : Int))
            exact bodyPost_ret (results_cell_row Tryz.results153 _ _ w.heap.size _ _ _ _ rfl GF Tryz.underlying98 rfl infoTok) rfl ⟨rfl, SF, TF⟩
        ·
          have hx2 : 100 < x := by omega
          obtain rfl : R = nope f st := by rw [← HR.out]; simp [counted, bind_ok, bind_no, O01.out, Q12.out, cntOk, hx]
          have C := none_any sb ao n cap f (a1 + 1) st k tv _ S2
          clear HR
          go_wp2_with fail
          refine C.mono ?_
          rintro e w' ⟨rfl, hb⟩
          have S' := S2.below hb
          have T' := Tn.beyond T2 hb
          go_wp2
          exact ⟨rfl, rfl, ⟨_, _, S'⟩, T'⟩
      | false =>
        rw [if_neg (by decide)] at S2
        have C := number_any sb ao n cap f a1 st k tv _ S2 10 3 (by decide) (by decide)
        obtain ⟨o, ho⟩ : ∃ o, number f n st 10 3 a1 = o := ⟨_, rfl⟩
        rw [ho] at C
        have O23 : Hid (number f n st 10 3 a1 = o) := ho
        clear ho
        go_wp2_with fail
        refine C.mono ?_
        intro e w3 H
        clear C
        cases o with
        | no q p =>
          obtain ⟨rfl, ⟨a', k', S'⟩, T'⟩ := H
          obtain rfl : R = .no q p := by rw [← HR.out]; simp [counted, bind_ok, bind_no, O01.out, Q12.out, O23.out]
          have T'' := T2.trans T'
          go_wp2
          exact ⟨rfl, rfl, ⟨_, _, S'⟩, T''⟩
        | ok q a2 =>
          obtain ⟨rfl, S3, T'⟩ := H
          have T3 := T2.trans T'
          have G3 := Tn.blk T' G2 hgn
          clear T' S2 T2 G2
          have hy0 := number_pos (by decide) HF.out O23.out
          obtain ⟨y, m2⟩ := q
          unfold nv
          simp only [] at hy0 ⊢
          have hy1 : ¬ y = -1 := by omega
          have hy2 : (y != -1) = true := by simp [hy1]
          by_cases hm : m2 = 125
          ·
            subst hm
            by_cases hf : y < x
            ·
              obtain rfl : R = nope f st := by rw [← HR.out]; simp [counted, bind_ok, bind_no, O01.out, Q12.out, O23.out, cntOk, hf, hy1, show ¬ x ≤ y from by omega]
              have C := none_any sb ao n cap f (a2) st k tv _ S3
              clear HR
              go_wp2_with fail
              refine C.mono ?_
              rintro e w' ⟨rfl, hb⟩
              have S' := S3.below hb
              have T' := Tn.beyond T3 hb
              go_wp2
              exact ⟨rfl, rfl, ⟨_, _, S'⟩, T'⟩
            ·
              have hf2 : ¬ y < x := hf
              have hmx : max x y = y := by omega
              by_cases hx : y ≤ 100
              ·
                have hx2 : ¬ 100 < y := by omega
                have hx3 : ¬ 100 < x := by omega
                have C := repeat_any sb ao n cap f a2 st k tv _ S3 x y
                obtain ⟨o, ho⟩ : ∃ o, rep f n x y a2 = o := ⟨_, rfl⟩
                rw [ho] at C
                obtain rfl : R = o := by rw [← HR.out, ← ho]; simp [counted, bind_ok, bind_no, O01.out, Q12.out, O23.out, cntOk, hx, hy1, show x ≤ y from by omega, show x ≤ 100 from by omega]
                clear HR ho
                go_wp2_with fail
                refine C.mono ?_
                intro e w4 H
                clear C
                cases R with
                | no q p =>
                  obtain ⟨rfl, ⟨a', k', S'⟩, T'⟩ := H
                  have T'' := T3.trans T'
                  go_wp2
                  exact ⟨rfl, rfl, ⟨_, _, S'⟩, T''⟩
                | ok t a9 =>
                  obtain ⟨rfl, S4, T'⟩ := H
                  have T4 := T3.trans T'
                  have G4 := Tn.blk T' G3 hgn
                  clear T' S3 T3 G3
                  obtain ⟨t1, t2, t3, t4, t5, t6, t7, t8⟩ := t
                  unfold Tk.val
                  obtain ⟨⟨k0, k1, k2, k3, k4, k5, k6, k7⟩, ⟨f0, f1, f2, f3, f4, f5, f6, f7⟩⟩ := blk8 G4
                  go_wp2
                  obtain ⟨GF, SF, TF⟩ := set8 h S4 T4 G4 (Nat.le_refl _) (.int .i64 t1) (.int .i64 t2) (.int .i64 t3) (.int .i64 t4) (.string (BA t5)) (.bool t6) (.int .i64 (t7 : Int)) (.int .i64 (t8 : Int))
                  exact bodyPost_ret (results_cell_row Tryz.results153 _ _ w.heap.size _ _ _ _ rfl GF Tryz.underlying98 rfl infoTok) rfl ⟨rfl, SF, TF⟩
              ·
                have hx2 : 100 < y := by omega
                obtain rfl : R = nope f st := by rw [← HR.out]; simp [counted, bind_ok, bind_no, O01.out, Q12.out, O23.out, cntOk, hx]
                have C := none_any sb ao n cap f (a2) st k tv _ S3
                clear HR
                go_wp2_with fail
                refine C.mono ?_
                rintro e w' ⟨rfl, hb⟩
                have S' := S3.below hb
                have T' := Tn.beyond T3 hb
                go_wp2
                exact ⟨rfl, rfl, ⟨_, _, S'⟩, T'⟩
          ·
            have m3 : (m2 == 125) = false := by simp [hm]
            have m4 : (m2 != 125) = true := by simp [hm]
            obtain rfl : R = nope f st := by rw [← HR.out]; simp [counted, bind_ok, bind_no, O01.out, Q12.out, O23.out, cntOk, hm]
            have C := none_any sb ao n cap f (a2) st k tv _ S3
            clear HR
            go_wp2_with fail
            refine C.mono ?_
            rintro e w' ⟨rfl, hb⟩
            have S' := S3.below hb
            have T' := Tn.beyond T3 hb
            go_wp2
            exact ⟨rfl, rfl, ⟨_, _, S'⟩, T'⟩
    ·
      have m0 : (m == 44) = false := by simp [h44]
      have hx1 : ¬ x = -1 := by omega
      have hx4 : (x != -1) = true := by simp [hx1]
      have hxx : ¬ x < x := by omega
      by_cases hm : m = 125
      ·
        subst hm
        by_cases hx : x ≤ 100
        ·
          have hx2 : ¬ 100 < x := by omega
          have C := repeat_any sb ao n cap f a1 st k tv _ S1 x x
          obtain ⟨o, ho⟩ : ∃ o, rep f n x x a1 = o := ⟨_, rfl⟩
          rw [ho] at C
          obtain rfl : R = o := by rw [← HR.out, ← ho]; simp [counted, bind_ok, bind_no, O01.out, cntOk, hx]
          clear HR ho
          go_wp2_with fail
          refine C.mono ?_
          intro e w2 H
          clear C
          cases R with
          | no q p =>
            obtain ⟨rfl, ⟨a', k', S'⟩, T'⟩ := H
            have T'' := T1.trans T'
            go_wp2
            exact ⟨rfl, rfl, ⟨_, _, S'⟩, T''⟩
          | ok t a9 =>
            obtain ⟨rfl, S2, T'⟩ := H
            have T2 := T1.trans T'
            have G2 := Tn.blk T' G1 hgn
            clear T' S1 T1 G1
            obtain ⟨t1, t2, t3, t4, t5, t6, t7, t8⟩ := t
            unfold Tk.val
            obtain ⟨⟨k0, k1, k2, k3, k4, k5, k6, k7⟩, ⟨f0, f1, f2, f3, f4, f5, f6, f7⟩⟩ := blk8 G2
            go_wp2
            obtain ⟨GF, SF, TF⟩ := set8 h S2 T2 G2 (Nat.le_refl _) (.int .i64 t1) (.int .i64 t2) (.int .i64 t3) (.int .i64 t4) (.string (BA t5)) (.bool t6) (.int .i64 (t7 : Int)) (.int .i64 (t8 : Int))
            exact bodyPost_ret (results_cell_row Tryz.results153 _ _ w.heap.size _ _ _ _ rfl GF Tryz.underlying98 rfl infoTok) rfl ⟨rfl, SF, TF⟩
        ·
          have hx2 : 100 < x := by omega
          obtain rfl : R = nope f st := by rw [← HR.out]; simp [counted, bind_ok, bind_no, O01.out, cntOk, hx]
          have C := none_any sb ao n cap f (a1) st k tv _ S1
          clear HR
          go_wp2_with fail
          refine C.mono ?_
          rintro e w' ⟨rfl, hb⟩
          have S' := S1.below hb
          have T' := Tn.beyond T1 hb
          go_wp2
          exact ⟨rfl, rfl, ⟨_, _, S'⟩, T'⟩
      ·
        have m3 : (m == 125) = false := by simp [hm]
        have m4 : (m != 125) = true := by simp [hm]
        obtain rfl : R = nope f st := by rw [← HR.out]; simp [counted, bind_ok, bind_no, O01.out, cntOk, hm, h44]
        have C := none_any sb ao n cap f (a1) st k tv _ S1
        clear HR
        go_wp2_with fail
        refine C.mono ?_
        rintro e w' ⟨rfl, hb⟩
        have S' := S1.below hb
        have T' := Tn.beyond T1 hb
        go_wp2
        exact ⟨rfl, rfl, ⟨_, _, S'⟩, T'⟩
end Go.Proofs.YtbdediacfckpcaaGreatDoor.tok
end

section
/- A property's expression. -/
set_option linter.unusedVariables false
set_option linter.unusedSimpArgs false
namespace Go.Proofs.YtbdediacfckpcaaGreatDoor.tok
open Go.RowKit
open lin (BA Turns)

theorem point_val {f : Nat → Int} {n a : Nat} {c : Int} {a' : Nat} (h : point f n a = .ok c a') : a < n ∧ a < a' ∧ a' ≤ n := by
  unfold point at h; split at h
  · rename_i hl
    have := utf.it_end f n a hl
    split at h
    · cases h; exact ⟨hl, by omega, by omega⟩
    · cases h
  · cases h
theorem exprR_fuel (f : Nat → Int) (n : Nat) : ∀ m a, n + 1 ≤ a + m → ∀ m', n + 1 ≤ a + m' → exprR f n m a = exprR f n m' a := by
  intro m
  induction m with
  | zero =>
    intro a h m' hm
    cases m' with
    | zero => rfl
    | succ m' => simp only [exprR]; unfold point; rw [if_neg (by omega)]; rfl
  | succ m ih =>
    intro a h m' hm
    cases m' with
    | zero => simp only [exprR]; unfold point; rw [if_neg (by omega)]; rfl
    | succ m' =>
      simp only [exprR]
      cases ho : point f n a with
      | no c p => rfl
      | ok c a' =>
        have := point_val ho
        rw [bind_ok, bind_ok, ih a' (by omega) m' (by omega)]
theorem exprR_step (f : Nat → Int) (n a : Nat) : exprR f n (n + 1 - a) a = (point f n a).bind fun r a' => if r = 125 then .ok () a' else exprR f n (n + 1 - a') a' := by
  by_cases ha : a < n
  · rw [show n + 1 - a = (n - a) + 1 by omega]
    simp only [exprR]
    cases ho : point f n a with
    | no c p => rfl
    | ok c a' =>
      have := point_val ho
      rw [bind_ok, bind_ok, exprR_fuel f n (n - a) a' (by omega) (n + 1 - a') (by omega)]
  · have e : point f n a = .no 130 n := by unfold point; rw [if_neg ha]
    rw [e, bind_no]
    cases hm : n + 1 - a with
    | zero => rfl
    | succ m => simp only [exprR]; rw [e]; rfl
theorem alone_small (l : List UInt8) : (nam.aloneL l).2.1.length ≤ 100 := by
  unfold nam.aloneL
  (repeat' split) <;> first | (rename_i r h; have := nam.rows_small r (nam.look_mem h).1; simp only []; omega) | simp
theorem both_small (p v : List UInt8) : (nam.bothL p v).2.1.length ≤ 100 := by
  unfold nam.bothL
  (repeat' split) <;> first | (rename_i r h; have := nam.rows_small r (nam.look_mem h).1; simp only []; omega) | simp
theorem resolve_small (s : ByteArray) : (nam.resolveV s).2.1.length ≤ 100 := by
  unfold nam.resolveV
  split
  · exact alone_small _
  · exact both_small _ _

set_option maxHeartbeats 2000000 in
set_option maxRecDepth 100000 in
theorem expression_any (sb : Nat) (ao : Option Addr) (n cap : Nat) (f : Nat → Int) (a st k : Nat) (tv : Value) (w : World) (h : Sc w sb ao n cap f a st k tv) :
    Calls Tryz.prog 142 #[.pointer (some ⟨sb, 0, none⟩)] w (End w sb ao n cap f st k tv sv (expr f n st a)) := by
  obtain ⟨R, hR⟩ : ∃ R, expr f n st a = R := ⟨_, rfl⟩
  rw [hR]
  have HR : Hid (expr f n st a = R) := hR
  clear hR
  have C := want_any sb ao n cap f a st k tv w h 123
  obtain ⟨o, ho⟩ : ∃ o, want f n st 123 a = o := ⟨_, rfl⟩
  rw [ho] at C
  have O1 : Hid (want f n st 123 a = o) := ho
  clear ho
  go_enter Tryz.func142, Tryz.ntmps142
  go_wp2_with fail
  refine C.mono ?_
  intro e w1 H
  clear C
  cases o with
  | no q p =>
    obtain ⟨rfl, ⟨a', k', S'⟩, T'⟩ := H
    obtain rfl : R = .no q p := by rw [← HR.out]; simp [expr, O1.out, bind_no]
    go_wp2
    exact ⟨rfl, rfl, ⟨_, _, S'⟩, T'⟩
  | ok u b0 =>
    obtain ⟨rfl, S1, T1⟩ := H
    have HR2 : Hid (R = (exprR f n (n + 1 - b0) b0).bind fun _ e => meant f st b0 e) := by unfold Hid; rw [← HR.out]; unfold expr; rw [O1.out, bind_ok]
    clear HR O1
    unfold uv
    have hn := S1.nn
    have hcc := S1.cc
    have hb0 := S1.aa
    have c1 := S1.cells.2.1
    have HS1 : Hid (Sc w1 sb ao n cap f b0 st k tv) := S1
    have HT1 : Hid (Tn sb w w1) := T1
    clear S1 T1
    go_wp2
    go_loopg [] (n - b0) (fun q wr => ∃ a1 : Nat, q = n - a1 ∧ b0 ≤ a1 ∧ a1 ≤ n ∧ Hid (R = (exprR f n (n + 1 - a1) a1).bind fun _ e => meant f st b0 e) ∧ Hid (Sc wr sb ao n cap f a1 st k tv) ∧ Hid (Tn sb w wr))
    case atStart => exact ⟨b0, rfl, Nat.le_refl _, hb0, HR2, HS1, HT1⟩
    case round =>
      obtain ⟨a1, hq, hba, han, HQ, HW, HT⟩ := hrel
      have P := point_any sb ao n cap f a1 st k tv wr HW.out
      obtain ⟨o, ho⟩ : ∃ o, point f n a1 = o := ⟨_, rfl⟩
      rw [ho] at P
      have HQ2 : Hid (R = (o.bind fun r a' => if r = 125 then .ok () a' else exprR f n (n + 1 - a') a').bind fun _ e => meant f st b0 e) := by unfold Hid; rw [HQ.out, exprR_step, ho]
      have HV : Hid (∀ c a', o = .ok c a' → a1 < n ∧ a1 < a' ∧ a' ≤ n) := fun c a' e => by rw [← ho] at e; exact point_val e
      clear ho HQ HR2 HS1 HT1
      go_wp2_with fail
      refine P.mono ?_
      intro e w2 H
      clear P
      cases o with
      | no q p =>
        obtain ⟨rfl, ⟨a', k', S'⟩, T'⟩ := H
        obtain rfl : R = .no q p := HQ2.out
        have T'' := HT.out.trans T'
        go_wp2
        exact ⟨rfl, rfl, ⟨_, _, S'⟩, T''⟩
      | ok c a2 =>
        obtain ⟨rfl, S2, T'⟩ := H
        have T2 := HT.out.trans T'
        obtain ⟨v1, v2, v3⟩ := HV.out c a2 rfl
        clear HV HT HW T'
        unfold iv
        by_cases hc : c = 125
        · subst hc
          have HQ3 : Hid (R = meant f st b0 a2) := HQ2.out
          obtain ⟨d0, d1, d2, -⟩ := S2.cells
          obtain ⟨b, off, rfl, hbn, -⟩ := S2.byt
          have CV := S2.conv b0 (a2 - 1) (cap - b0) (by omega) (by omega)
          have CVD := S2.drew.conv b0 (a2 - 1) (cap - b0) (by omega) (by omega)
          have HS2 : Hid (Sc w2 sb (some ⟨b, off, none⟩) n cap f a2 st k tv) := S2
          have HT2 : Hid (Tn sb w w2) := T2
          have hsz : (BA (bytes f b0 (a2 - 1))).size ≤ 2000 := by rw [lin.BA_size, bytes_len]; omega
          obtain ⟨X, hX⟩ : ∃ X, BA (bytes f b0 (a2 - 1)) = X := ⟨_, rfl⟩
          have HM : Hid (R = if (nam.resolveV X).2.2 = 0 then .ok (canonL (nam.resolveV X)) a2 else .no (nam.resolveV X).2.2 st) := by unfold Hid; rw [HQ3.out]; unfold meant; rw [hX]
          have hsm := resolve_small X
          rw [hX] at CV CVD hsz
          have RS : Hid (∀ W, Below w2.heap.size w2 W → Calls Tryz.prog 157 #[.string X] W fun e w' => e = .returned (.tuple #[.int .i64 (nam.resolveV X).1, .string (BA (nam.resolveV X).2.1), .int .i64 (nam.resolveV X).2.2]) ∧ Below w2.heap.size w2 w' ∧ w'.cell? ⟨sb, 0, none⟩ = some (.slice (some ⟨b, off, none⟩) n cap) ∧ w'.cell? ⟨sb, 1, none⟩ = some (.int .i64 a2) ∧ (convert 48 9 (.slice (some ⟨b, off + b0, none⟩) (a2 - 1 - b0) (cap - b0))).run Tryz.prog w' = .ok (.string X) w') := fun W hW => (nam.resolve_any X W (by omega)).mono fun e w' H =>
            have q := hW.trans (H.2.mono hW.size)
            ⟨H.1, q, (HS2.out.below q).cells.1, (HS2.out.below q).cells.2.1, by rw [← hX]; exact (HS2.out.below q).conv b0 (a2 - 1) (cap - b0) (by omega) (by omega)⟩
          clear HQ2 HQ3 hX S2 T2
          generalize nam.resolveV X = V at *
          have l1 : (0 : Int) ≤ (b0 : Int) := by omega
          have l2 : (b0 : Int) ≤ (a2 : Int) - 1 := by omega
          have l3 : (a2 : Int) - 1 ≤ (cap : Int) := by omega
          have l4 : (b0 : Int) < (cap : Int) := by omega
          have l5 : ¬ cap = b0 := by omega
          have l6 : ¬ cap - b0 = 0 := by omega
          have l9 : IntKind.i64.wrap ((a2 : Int) - 1) = (a2 : Int) - 1 := by rw [IntKind.wrap_i64]; omega
          have lA : ((a2 : Int) - 1).toNat = a2 - 1 := by omega
          have lB : ((a2 : Int) - 1 - (b0 : Int)).toNat = a2 - 1 - b0 := by omega
          go_wp2
          go_region_held3 (fun w' => w'.cell? ⟨sb, 0, none⟩ = some (.slice (some ⟨b, off, none⟩) n cap) ∧ w'.cell? ⟨sb, 1, none⟩ = some (.int .i64 a2) ∧ (convert 48 9 (.slice (some ⟨b, off + b0, none⟩) (a2 - 1 - b0) (cap - b0))).run Tryz.prog w' = .ok (.string X) w') (go_keep)
            (first | (go_at_call 157; refine (RS.out _ ?_).mono ?_; (rotate_left; rintro e w3 ⟨rfl, hb3, m0, m1, m2⟩; rotate_right; (repeat' first | exact Below.refl _ _ | assumption | refine below_drewN ?_ _ | refine Below.setCell ?_ (by simp) _ | refine Below.alloc ?_ (by simp) _))))
          have S3 := HS2.out.below hb3
          have T3 := Tn.beyond HT2.out hb3
          obtain ⟨e0, e1, e2, -⟩ := S3.cells
          obtain ⟨v1, v2, v3⟩ := V
          simp only [] at hsm HM ⊢
          have hs1 : ByteArray.size ⟨#[103, 99, 61]⟩ = 3 := rfl
          have hs2 : ByteArray.size ⟨#[115, 99, 61]⟩ = 3 := rfl
          have hs3 : (BA v2).size ≤ 100 := hsm
          obtain ⟨Y, hY⟩ : ∃ Y, BA v2 = Y := ⟨_, rfl⟩
          have HE1 : Hid (BA ([103, 99, 61] ++ v2) = ⟨#[103, 99, 61]⟩ ++ Y) := by unfold Hid; rw [← hY]; exact (nam.BA_app [103, 99, 61] v2).symm
          have HE2 : Hid (BA ([115, 99, 61] ++ v2) = ⟨#[115, 99, 61]⟩ ++ Y) := by unfold Hid; rw [← hY]; exact (nam.BA_app [115, 99, 61] v2).symm
          have HE3 : Hid (BA v2 = Y) := hY
          rw [hY] at hs3 ⊢
          clear hY RS HS2 HT2 CV CVD m0 m1 m2 hb3 hsm d0 d1 d2
          by_cases hv : v3 = 0
          · subst hv
            have HM2 : Hid (R = .ok (canonL (v1, v2, 0)) a2) := HM.out
            rcases (show v1 = 1 ∨ v1 = 2 ∨ (¬ v1 = 1 ∧ ¬ v1 = 2) from by omega) with rfl | rfl | ⟨n1, n2⟩
            · obtain rfl : R = .ok ([103, 99, 61] ++ v2) a2 := HM2.out
              clear HM HM2
              go_wp2
              go_ret
              exact ⟨by unfold sv; rw [HE1.out]; rfl, S3, T3⟩
            · obtain rfl : R = .ok ([115, 99, 61] ++ v2) a2 := HM2.out
              clear HM HM2
              go_wp2
              go_ret
              exact ⟨by unfold sv; rw [HE2.out]; rfl, S3, T3⟩
            · obtain rfl : R = .ok v2 a2 := by rw [HM2.out]; simp [canonL, n1, n2]
              have m1 : (v1 == 1) = false := by simp [n1]
              have m2 : (v1 == 2) = false := by simp [n2]
              clear HM HM2
              go_wp2
              go_ret
              exact ⟨by unfold sv; rw [HE3.out]; rfl, S3, T3⟩
          · obtain rfl : R = .no v3 st := by rw [HM.out, if_neg hv]
            have m1 : (v3 == 0) = false := by simp [hv]
            have m2 : (v3 != 0) = true := by simp [hv]
            clear HM HE1 HE2 HE3
            go_wp2
            exact ⟨rfl, rfl, ⟨_, _, S3⟩, T3⟩
        · have HQ3 : Hid (R = (exprR f n (n + 1 - a2) a2).bind fun _ e => meant f st b0 e) := by unfold Hid; rw [HQ2.out, bind_ok, if_neg hc]
          have m1 : (c == 125) = false := by simp [hc]
          have m2 : (c != 125) = true := by simp [hc]
          clear HQ2
          have hgm : n - a2 < gk := by omega
          go_wp2
          go_roundg (n - a2)
          case measure => omega
          case rel => exact ⟨a2, rfl, by omega, v3, HQ3, S2, T2⟩
end Go.Proofs.YtbdediacfckpcaaGreatDoor.tok
end

section
/- Where a token's end, and a fault, stand; what kinds tokens have. -/
set_option linter.unusedVariables false
set_option linter.unusedSimpArgs false
namespace Go.Proofs.YtbdediacfckpcaaGreatDoor.tok
open utf (it len it_end)
open lin (BA)

/-- A step that began no earlier than st ends between lo and n; its fault stands between st and n. -/
def In {α : Type} (st lo n : Nat) : Out α → Prop
  | .ok _ a => lo ≤ a ∧ a ≤ n
  | .no c p => c ≠ 0 ∧ st ≤ p ∧ p ≤ n
theorem In.bind {α β : Type} {st lo n : Nat} {o : Out α} {g : α → Nat → Out β} (h : In st lo n o) (hk : ∀ v a, lo ≤ a → a ≤ n → In st lo n (g v a)) : In st lo n (o.bind g) := by
  cases o with
  | ok v a => exact hk v a h.1 h.2
  | no c p => exact h
theorem In.weak {α : Type} {st lo lo' n : Nat} {o : Out α} (h : In st lo n o) (hl : lo' ≤ lo) : In st lo' n o := by
  cases o with
  | ok v a => exact ⟨by have := h.1; omega, h.2⟩
  | no c p => exact h
theorem In.ite {α : Type} {st lo n : Nat} {c : Prop} [Decidable c] {x y : Out α} (hx : In st lo n x) (hy : In st lo n y) : In st lo n (if c then x else y) := by split <;> assumption
/-- What comes of a step has this property. -/
def Gives {α : Type} (P : α → Prop) : Out α → Prop
  | .ok v _ => P v
  | .no _ _ => True
theorem Gives.bind {α β : Type} {P : β → Prop} {o : Out α} {g : α → Nat → Out β} (hk : ∀ v a, Gives P (g v a)) : Gives P (o.bind g) := by
  cases o with
  | ok v a => exact hk v a
  | no c p => trivial
theorem Gives.ite {α : Type} {P : α → Prop} {c : Prop} [Decidable c] {x y : Out α} (hx : Gives P x) (hy : Gives P y) : Gives P (if c then x else y) := by split <;> assumption

section
variable (f : Nat → Int) (n : Nat)
theorem noneC_ne (st : Nat) : noneC f st ≠ 0 := by unfold noneC; (repeat' split) <;> decide
theorem nope_in {α : Type} (st lo : Nat) (h : st ≤ n) : In st lo n (nope f st : Out α) := ⟨noneC_ne f st, Nat.le_refl _, h⟩
theorem point_in (st a : Nat) (h : st ≤ a) (hs : st ≤ n) : In st (a + 1) n (point f n a) := by
  unfold point
  split
  · rename_i ha
    have := it_end f n a ha
    split
    · exact ⟨by omega, by omega⟩
    · exact ⟨by decide, h, by omega⟩
  · exact ⟨by decide, hs, Nat.le_refl _⟩
theorem octet_in (st a : Nat) (h : st ≤ a) (hs : st ≤ n) : In st (a + 1) n (octet f n a) := by
  unfold octet
  split
  · exact ⟨by omega, by omega⟩
  · exact ⟨by decide, hs, Nat.le_refl _⟩
theorem want_in (st : Nat) (c : Int) (a : Nat) (h : st ≤ a) (hs : st ≤ n) : In st (a + 1) n (want f n st c a) := by
  unfold want
  refine (octet_in f n st a h hs).bind fun v a' h1 h2 => ?_
  split
  · exact ⟨h1, h2⟩
  · exact nope_in f n st _ hs
theorem numR_in (st : Nat) (base : Int) (hs : st ≤ n) : ∀ left acc first a, st ≤ a → In st (a + 1) n (numR f n st base left acc first a) := by
  intro left
  induction left with
  | zero =>
    intro acc first a h
    rw [numR_step]
    refine (octet_in f n st a h hs).bind fun v a' h1 h2 => ?_
    split
    · exact nope_in f n st _ hs
    · split
      · exact nope_in f n st _ hs
      · exact ⟨h1, h2⟩
  | succ left ih =>
    intro acc first a h
    rw [numR_step]
    refine (octet_in f n st a h hs).bind fun v a' h1 h2 => ?_
    split
    · exact (ih _ _ a' (by omega)).weak (by omega)
    · split
      · exact nope_in f n st _ hs
      · exact ⟨h1, h2⟩
theorem number_in (st : Nat) (base : Int) (most a : Nat) (hs : st ≤ n) (h : st ≤ a) : In st (a + 1) n (number f n st base most a) := numR_in f n st base hs most 0 true a h
theorem nmR_step (st b left a : Nat) : nmR f n st b left a = (octet f n a).bind fun c a' =>
      if c = 62 ∧ b < a then .ok (bytes f b a) a'
      else match left with
      | 0 => nope f st
      | left + 1 => if nmC c (decide (a = b)) = true then nmR f n st b left a' else nope f st := by
  cases left <;> rfl
theorem nmR_in (st b : Nat) (hs : st ≤ n) : ∀ left a, st ≤ a → In st (a + 1) n (nmR f n st b left a) := by
  intro left
  induction left with
  | zero =>
    intro a h
    rw [nmR_step]
    refine (octet_in f n st a h hs).bind fun v a' h1 h2 => ?_
    split
    · exact ⟨h1, h2⟩
    · exact nope_in f n st _ hs
  | succ left ih =>
    intro a h
    rw [nmR_step]
    refine (octet_in f n st a h hs).bind fun v a' h1 h2 => ?_
    split
    · exact ⟨h1, h2⟩
    · simp only []
      split
      · exact (ih a' (by omega)).weak (by omega)
      · exact nope_in f n st _ hs
theorem name_in (st a : Nat) (hs : st ≤ n) (h : st ≤ a) : In st (a + 1) n (name f n st a) := nmR_in f n st a hs 20 a h
theorem exprR_in (st : Nat) (hs : st ≤ n) : ∀ m a, st ≤ a → In st (a + 1) n (exprR f n m a) := by
  intro m
  induction m with
  | zero => intro a h; exact ⟨by decide, hs, Nat.le_refl _⟩
  | succ m ih =>
    intro a h
    simp only [exprR]
    refine (point_in f n st a h hs).bind fun v a' h1 h2 => ?_
    split
    · exact ⟨h1, h2⟩
    · exact (ih a' (by omega)).weak (by omega)
theorem meant_in (st b e : Nat) (h : st ≤ n) (he : e ≤ n) : In st e n (meant f st b e) := by
  unfold meant
  split
  · exact ⟨Nat.le_refl _, he⟩
  · rename_i hc; exact ⟨hc, Nat.le_refl _, h⟩
theorem expr_in (st a : Nat) (hs : st ≤ n) (h : st ≤ a) : In st (a + 1) n (expr f n st a) := by
  unfold expr
  refine (want_in f n st 123 a h hs).bind fun v b h1 h2 => ?_
  refine ((exprR_in f n st hs (n + 1 - b) b (by omega)).weak (by omega)).bind fun u e h3 h4 => ?_
  exact (meant_in f n st b e hs h4).weak h3
theorem hex_in (st a : Nat) (hs : st ≤ n) (h : st ≤ a) : In st (a + 1) n (hex f n st a) := by
  unfold hex
  refine (want_in f n st 123 a h hs).bind fun v b h1 h2 => ?_
  refine ((number_in f n st 16 6 b hs (by omega)).weak (by omega)).bind fun u e h3 h4 => ?_
  split
  · exact ⟨h3, h4⟩
  · exact nope_in f n st _ hs
theorem at_lt {a : Nat} {c : Int} (h : at_ f n a c = true) : a < n ∧ f a = c := by unfold at_ at h; simpa using h
theorem edge_in (st : Nat) (x y z : Int) (a : Nat) (hs : st ≤ n) (h : st ≤ a) (ha : a ≤ n) : In st a n (edge f n st x y z a) := by
  unfold edge
  split
  · refine ((octet_in f n st (a + 1) (by omega) hs).weak (by omega)).bind fun c b h1 h2 => ?_
    split
    · exact ((want_in f n st 125 b (by omega) hs).weak (by omega)).bind fun u e h3 h4 => ⟨h3, h4⟩
    · split
      · exact ((want_in f n st 125 b (by omega) hs).weak (by omega)).bind fun u e h3 h4 => ⟨h3, h4⟩
      · exact nope_in f n st _ hs
  · exact ⟨Nat.le_refl _, ha⟩
theorem back_in (st a : Nat) (hs : st ≤ n) (h : st ≤ a) : In st a n (back f n st a) := by
  unfold back
  refine ((octet_in f n st a h hs).weak (by omega)).bind fun c b h1 h2 => ?_
  split
  · exact ((name_in f n st b hs (by omega)).weak (by omega)).bind fun u e h3 h4 => ⟨h3, h4⟩
  · split
    · refine ((number_in f n st 10 2 b hs (by omega)).weak (by omega)).bind fun u e h3 h4 => ?_
      split
      · exact ⟨h3, h4⟩
      · exact nope_in f n st _ hs
    · exact nope_in f n st _ hs
theorem rep_in (st : Nat) (x y : Int) (a : Nat) (ha : a ≤ n) : In st a n (rep f n x y a) := by
  unfold rep
  split
  · rename_i h; have := at_lt f n h; exact ⟨by omega, by omega⟩
  · split
    · rename_i h; have := at_lt f n h; exact ⟨by omega, by omega⟩
    · exact ⟨Nat.le_refl _, ha⟩
theorem counted_in (st a : Nat) (hs : st ≤ n) (h : st ≤ a) : In st a n (counted f n st a) := by
  unfold counted
  refine ((number_in f n st 10 3 a hs h).weak (by omega)).bind fun q b h1 h2 => ?_
  split
  · rename_i hq
    have := at_lt f n hq.2
    split
    · exact (rep_in f n st _ _ (b + 1) (by omega)).weak (by omega)
    · exact nope_in f n st _ hs
  · split
    · refine ((number_in f n st 10 3 b hs (by omega)).weak (by omega)).bind fun p e h3 h4 => ?_
      split
      · exact (rep_in f n st _ _ e h4).weak h3
      · exact nope_in f n st _ hs
    · split
      · exact (rep_in f n st _ _ b h2).weak h1
      · exact nope_in f n st _ hs
theorem openLeft_in (st a : Nat) (hs : st ≤ n) (h : st ≤ a) (ha : a ≤ n) : In st a n (openLeft f n st a) := by
  unfold openLeft
  split
  · rename_i h; have := at_lt f n h; exact ⟨by omega, by omega⟩
  · split
    · rename_i h; have := at_lt f n h; exact ⟨by omega, by omega⟩
    · exact ((name_in f n st a hs h).weak (by omega)).bind fun u e h3 h4 => ⟨h3, h4⟩
theorem open_in (st a : Nat) (hs : st ≤ n) (h : st ≤ a) (ha : a ≤ n) : In st a n (open_ f n st a) := by
  unfold open_
  split
  · refine ((octet_in f n st (a + 1) (by omega) hs).weak (by omega)).bind fun c b h1 h2 => ?_
    (repeat' split) <;> first | exact ⟨h1, h2⟩ | exact (openLeft_in f n st b hs (by omega) h2).weak h1 | exact nope_in f n st _ hs
  · exact ⟨Nat.le_refl _, ha⟩
theorem class_in (st a : Nat) (ha : a ≤ n) : In st a n (class_ f n a) := by
  unfold class_
  split
  · rename_i h; have := at_lt f n h; exact ⟨by omega, by omega⟩
  · exact ⟨Nat.le_refl _, ha⟩
theorem with_in {st lo k : Nat} {o : Out Tk} (h : In st lo n o) : In st lo n (o.with_ k) := h.bind fun v a h1 h2 => ⟨h1, h2⟩
theorem within_in (st : Nat) (r : Int) (a k : Nat) (ha : a ≤ n) : In st a n (within f n r a k) := by
  unfold within
  split
  · exact with_in n (class_in f n st a ha)
  · split
    · exact ⟨Nat.le_refl _, ha⟩
    · split
      · rename_i h; have := at_lt f n h.2; exact ⟨by omega, by omega⟩
      · split
        · rename_i h; have := at_lt f n h.2; exact ⟨by omega, by omega⟩
        · split
          · rename_i h; have := at_lt f n h.2; exact ⟨by omega, by omega⟩
          · split <;> exact ⟨Nat.le_refl _, ha⟩
theorem mark_in (st : Nat) (r : Int) (a : Nat) (hs : st ≤ n) (h : st ≤ a) (ha : a ≤ n) : In st a n (mark f n st r a) := by
  unfold mark
  (repeat' split) <;> first | exact ⟨Nat.le_refl _, ha⟩ | exact open_in f n st a hs h ha | exact rep_in f n st _ _ a ha | exact counted_in f n st a hs h
theorem outside_in (st : Nat) (r : Int) (a k : Nat) (hs : st ≤ n) (h : st ≤ a) (ha : a ≤ n) : In st a n (outside f n st r a k) := by
  unfold outside
  split
  · exact with_in n (class_in f n st a ha)
  · exact with_in n (mark_in f n st r a hs h ha)
theorem escOut_in (st : Nat) (r : Int) (a : Nat) (hs : st ≤ n) (h : st ≤ a) (ha : a ≤ n) : In st a n (escOut f n st r a) := by
  unfold escOut
  (repeat' split) <;> first | exact ⟨Nat.le_refl _, ha⟩ | exact edge_in f n st _ _ _ a hs h ha | exact back_in f n st a hs h | exact nope_in f n st _ hs
theorem escape_in (st a k : Nat) (hs : st ≤ n) (h : st ≤ a) : In st a n (escape f n st a k) := by
  unfold escape
  refine ((point_in f n st a h hs).weak (by omega)).bind fun r b h1 h2 => ?_
  have hx := (expr_in f n st b hs (by omega)).weak (show a ≤ b + 1 by omega)
  repeat' first | exact (escOut_in f n st r b hs (by omega) h2).weak h1 | exact (hex_in f n st b hs (by omega)).weak (by omega) | refine In.ite ?_ ?_
  all_goals first | exact ⟨h1, h2⟩ | exact hx.bind (fun u e h3 h4 => ⟨h3, h4⟩) | exact (hex_in f n st b hs (by omega)).weak (by omega) | exact nope_in f n st _ hs | exact (escOut_in f n st r b hs (by omega) h2).weak h1
theorem token_in (st k : Nat) (hs : st ≤ n) : In st (st + 1) n (token f n st k) := by
  unfold token
  refine (point_in f n st st (Nat.le_refl _) hs).bind fun r a h1 h2 => ?_
  split
  · exact with_in n ((escape_in f n st a k hs (by omega)).weak h1)
  · split
    · exact (within_in f n st r a k h2).weak h1
    · exact (outside_in f n st r a k hs (by omega) h2).weak h1

/-- How many classes may be open behind a token; its kind. -/
def Fine (k : Nat) (t : Tk × Nat) : Prop := t.2 ≤ k + 1 ∧ 1 ≤ t.1.kind ∧ t.1.kind ≤ 14
def Kind (t : Tk) : Prop := 1 ≤ t.kind ∧ t.kind ≤ 14
theorem with_fine {k k' : Nat} {o : Out Tk} (h : Gives Kind o) (hk : k' ≤ k + 1) : Gives (Fine k) (o.with_ k') := by
  cases o with
  | ok t a => exact ⟨hk, h⟩
  | no c p => trivial
theorem rep_kind (x y : Int) (a : Nat) : Gives Kind (rep f n x y a) := by unfold rep; (repeat' split) <;> exact ⟨by show (1 : Int) ≤ 6; decide, by show (6 : Int) ≤ 14; decide⟩
theorem class_kind (a : Nat) : Gives Kind (class_ f n a) := by unfold class_; (repeat' split) <;> exact ⟨by decide, by decide⟩
theorem counted_kind (st a : Nat) : Gives Kind (counted f n st a) := by
  unfold counted
  refine Gives.bind fun q b => ?_
  split
  · split
    · exact rep_kind f n _ _ _
    · trivial
  · split
    · refine Gives.bind fun p e => ?_
      split
      · exact rep_kind f n _ _ _
      · trivial
    · split
      · exact rep_kind f n _ _ _
      · trivial
theorem openLeft_kind (st a : Nat) : Gives Kind (openLeft f n st a) := by
  unfold openLeft
  (repeat' split) <;> first | exact ⟨by decide, by decide⟩ | exact Gives.bind fun q b => ⟨by show (1 : Int) ≤ 3; decide, by show (3 : Int) ≤ 14; decide⟩
theorem open_kind (st a : Nat) : Gives Kind (open_ f n st a) := by
  unfold open_
  split
  · refine Gives.bind fun c b => ?_
    (repeat' split) <;> first | exact ⟨by decide, by decide⟩ | exact openLeft_kind f n st b | trivial
  · exact ⟨by decide, by decide⟩
theorem edge_kind (st : Nat) (x y z : Int) (a : Nat) : Gives Kind (edge f n st x y z a) := by
  unfold edge
  split
  · refine Gives.bind fun c b => ?_
    (repeat' split) <;> first | exact Gives.bind fun q b => ⟨by show (1 : Int) ≤ 7; decide, by show (7 : Int) ≤ 14; decide⟩ | trivial
  · exact ⟨by show (1 : Int) ≤ 7; decide, by show (7 : Int) ≤ 14; decide⟩
theorem back_kind (st a : Nat) : Gives Kind (back f n st a) := by
  unfold back
  refine Gives.bind fun c b => ?_
  split
  · exact Gives.bind fun q b => ⟨by show (1 : Int) ≤ 9; decide, by show (9 : Int) ≤ 14; decide⟩
  · split
    · refine Gives.bind fun q b => ?_
      split
      · exact ⟨by show (1 : Int) ≤ 9; decide, by show (9 : Int) ≤ 14; decide⟩
      · trivial
    · trivial
theorem hex_kind (st a : Nat) : Gives Kind (hex f n st a) := by
  unfold hex
  refine Gives.bind fun c b => Gives.bind fun q b => ?_
  split
  · exact ⟨by show (1 : Int) ≤ 1; decide, by show (1 : Int) ≤ 14; decide⟩
  · trivial
theorem mark_kind (st : Nat) (r : Int) (a : Nat) : Gives Kind (mark f n st r a) := by
  unfold mark
  (repeat' split) <;> first | exact ⟨by show (1 : Int) ≤ _; decide, by show _ ≤ (14 : Int); decide⟩ | exact open_kind f n st a | exact rep_kind f n _ _ _ | exact counted_kind f n st a | exact ⟨by show (1 : Int) ≤ 1; decide, by show (1 : Int) ≤ 14; decide⟩
theorem escOut_kind (st : Nat) (r : Int) (a : Nat) : Gives Kind (escOut f n st r a) := by
  unfold escOut
  (repeat' split) <;> first | exact ⟨by show (1 : Int) ≤ 7; decide, by show (7 : Int) ≤ 14; decide⟩ | exact edge_kind f n st _ _ _ a | exact ⟨by show (1 : Int) ≤ 10; decide, by show (10 : Int) ≤ 14; decide⟩ | exact back_kind f n st a | exact ⟨by show (1 : Int) ≤ 9; decide, by show (9 : Int) ≤ 14; decide⟩ | trivial
theorem escape_kind (st a k : Nat) : Gives Kind (escape f n st a k) := by
  unfold escape
  refine Gives.bind fun r b => ?_
  repeat' first | exact escOut_kind f n st r b | exact hex_kind f n st b | refine Gives.ite ?_ ?_
  all_goals first | exact ⟨by show (1 : Int) ≤ 8; decide, by show (8 : Int) ≤ 14; decide⟩ | exact ⟨by show (1 : Int) ≤ 1; decide, by show (1 : Int) ≤ 14; decide⟩ | exact Gives.bind (fun u e => ⟨by show (1 : Int) ≤ 8; decide, by show (8 : Int) ≤ 14; decide⟩) | exact hex_kind f n st b | exact escOut_kind f n st r b | trivial
theorem within_fine (r : Int) (a k : Nat) : Gives (Fine k) (within f n r a k) := by
  unfold within
  split
  · exact with_fine (class_kind f n a) (Nat.le_refl _)
  · (repeat' split) <;> first | exact ⟨by show k - 1 ≤ _; omega, by show (1 : Int) ≤ 12; decide, by show (12 : Int) ≤ 14; decide⟩ | exact ⟨by show k ≤ _; omega, by show (1 : Int) ≤ 14; decide, by show (14 : Int) ≤ 14; decide⟩ | exact ⟨by show k ≤ _; omega, by show (1 : Int) ≤ 13; decide, by show (13 : Int) ≤ 14; decide⟩ | exact ⟨by show k ≤ _; omega, by show (1 : Int) ≤ 1; decide, by show (1 : Int) ≤ 14; decide⟩
theorem token_fine (st k : Nat) : Gives (Fine k) (token f n st k) := by
  unfold token
  refine Gives.bind fun r a => ?_
  split
  · exact with_fine (escape_kind f n st a k) (by omega)
  · split
    · exact within_fine f n r a k
    · unfold outside
      split
      · exact with_fine (class_kind f n a) (Nat.le_refl _)
      · exact with_fine (mark_kind f n st r a) (by omega)

theorem token_val {st k : Nat} {t : Tk × Nat} {a : Nat} (h : token f n st k = .ok t a) (hs : st ≤ n) : st < a ∧ a ≤ n ∧ t.2 ≤ k + 1 ∧ 1 ≤ t.1.kind ∧ t.1.kind ≤ 14 := by
  have h1 := token_in f n st k hs
  have h2 := token_fine f n st k
  rw [h] at h1 h2
  exact ⟨h1.1, h1.2, h2⟩
theorem scanR_fuel : ∀ m a k, n ≤ a + m → ∀ m', n ≤ a + m' → scanR f n m a k = scanR f n m' a k := by
  intro m
  induction m with
  | zero =>
    intro a k h m' hm
    cases m' with
    | zero => rfl
    | succ m' => simp only [scanR]; rw [if_neg (by omega)]
  | succ m ih =>
    intro a k h m' hm
    cases m' with
    | zero => simp only [scanR]; rw [if_neg (by omega)]
    | succ m' =>
      simp only [scanR]
      by_cases ha : a < n
      · rw [if_pos ha, if_pos ha]
        cases ho : token f n a k with
        | no c p => rfl
        | ok t a' =>
          have := token_val f n ho (by omega)
          simp only []
          rw [ih a' t.2 (by omega) m' (by omega)]
      · rw [if_neg ha, if_neg ha]
/-- What is left to scan. -/
def scanA (a k : Nat) : List Tk × Int × Nat := scanR f n (n - a) a k
theorem scanA_ok {a k : Nat} {t : Tk × Nat} {a' : Nat} (h : token f n a k = .ok t a') (ha : a < n) : scanA f n a k = ({ t.1 with s := a, e := a' } :: (scanA f n a' t.2).1, (scanA f n a' t.2).2) := by
  have hv := token_val f n h (by omega)
  unfold scanA
  rw [show n - a = (n - a - 1) + 1 by omega]
  simp only [scanR]
  rw [if_pos ha, h]
  simp only []
  rw [scanR_fuel f n (n - a - 1) a' t.2 (by omega) (n - a') (by omega)]
theorem scanA_no {a k : Nat} {c : Int} {p : Nat} (h : token f n a k = .no c p) (ha : a < n) : scanA f n a k = ([], c, p) := by
  unfold scanA
  rw [show n - a = (n - a - 1) + 1 by omega]
  simp only [scanR]
  rw [if_pos ha, h]
theorem scanA_end (k : Nat) : scanA f n n k = ([], 0, 0) := by unfold scanA; rw [Nat.sub_self]; rfl
theorem scanL_A (h : n ≤ 2000) : scanL f n = scanA f n 0 0 := by unfold scanL scanA; rw [if_pos h]; rfl
end
end Go.Proofs.YtbdediacfckpcaaGreatDoor.tok
end

section
/- Tokens stand one behind the other; a fault stands behind them. Plain mathematics. -/
set_option linter.unusedVariables false
set_option linter.unusedSimpArgs false
namespace Go.Proofs.YtbdediacfckpcaaGreatDoor.tok
open utf (it len it_end)

/-- Tokens that stand one behind the other, from a to b. -/
def Chain : Nat → List Tk → Nat → Prop
  | a, [], b => a = b
  | a, t :: l, b => t.s = a ∧ a < t.e ∧ 1 ≤ t.kind ∧ t.kind ≤ 14 ∧ Chain t.e l b
/-- Where tokens end. -/
def endT : Nat → List Tk → Nat
  | a, [] => a
  | _, t :: l => endT t.e l
section
variable (f : Nat → Int) (n : Nat)
end
end Go.Proofs.YtbdediacfckpcaaGreatDoor.tok
end

section
/- What a pattern says for a code point is one token. Plain mathematics. -/
set_option linter.unusedVariables false
set_option linter.unusedSimpArgs false
namespace Go.Proofs.YtbdediacfckpcaaGreatDoor.tok
open utf (it len it_end enc it_ext it_shift it_enc enc_pos enc_of_1 len_1)

/-- These bytes stand at a place. -/
def Here (f : Nat → Int) (n a : Nat) (L : List Int) : Prop := a + L.length ≤ n ∧ ∀ i, i < L.length → f (a + i) = L.getD i 0
theorem enc_low (r : Int) (h0 : 0 ≤ r) (h1 : r ≤ 127) : enc r = [r] := enc_of_1 r (len_1 r h0 h1)
def dU (d : Int) : Int := if d < 10 then 48 + d else 55 + d
def hexU (r : Int) : List Int := if r < 16 then [dU r] else [dU (r / 16), dU (r % 16)]
def marksO : List Int := [46, 91, 40, 41, 124, 42, 43, 63, 123, 94, 36, 92]
def marksC : List Int := [91, 93, 94, 45, 38, 126, 92]
/-- What a pattern says for a code point. -/
def printL (r : Int) (cls : Bool) : List Int :=
  if len r = 0 then [] else if r < 32 ∨ r = 127 then [92, 120, 123] ++ hexU r ++ [125]
  else if r ∈ (if cls = true then marksC else marksO) then 92 :: enc r else enc r
theorem marks_low (r : Int) (cls : Bool) (h : r ∈ (if cls = true then marksC else marksO)) : 32 ≤ r ∧ r ≤ 126 ∧ letterB r = false ∧ digitB r = false ∧ ¬ (r = 100 ∨ r = 119 ∨ r = 115 ∨ r = 68 ∨ r = 87 ∨ r = 83 ∨ r = 112 ∨ r = 80 ∨ r = 110 ∨ r = 116 ∨ r = 114 ∨ r = 120) := by
  cases cls
  · simp only [Bool.false_eq_true, if_false, marksO, List.mem_cons, List.not_mem_nil, or_false] at h
    rcases h with rfl | rfl | rfl | rfl | rfl | rfl | rfl | rfl | rfl | rfl | rfl | rfl <;> decide
  · simp only [if_true, marksC, List.mem_cons, List.not_mem_nil, or_false] at h
    rcases h with rfl | rfl | rfl | rfl | rfl | rfl | rfl <;> decide

section
variable (f : Nat → Int) (n : Nat)
theorem print_none (r : Int) (cls : Bool) (hr : len r = 0) : printL r cls = [] := by unfold printL; rw [if_pos hr]
end
end Go.Proofs.YtbdediacfckpcaaGreatDoor.tok
end
