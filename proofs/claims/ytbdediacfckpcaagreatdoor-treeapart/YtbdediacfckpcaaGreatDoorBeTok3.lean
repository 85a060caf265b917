/- Texts that the proof leans on, one behind the other. -/
import Derived.Test.YtbdediacfckpcaaGreatDoorBeTok2
import Derived.Laws.BytesArg
import Derived.Deep.LoopGhost

section
/- A NAME of a pattern. -/
set_option linter.unusedVariables false
set_option linter.unusedSimpArgs false
namespace Go.Proofs.YtbdediacfckpcaaGreatDoor.tok
open Go.RowKit
open lin (BA Turns)

def sv (s : List UInt8) : Value := .string (BA s)
theorem bytes_str (f : Nat → Int) (b e : Nat) : strOfNums ((List.range (e - b)).map fun i => f (b + i)) = BA (bytes f b e) := by
  simp [strOfNums, bytes, BA, Function.comp_def]
/-- Bytes of the pattern as a string. -/
theorem Sc.conv {w : World} {sb : Nat} {n cap : Nat} {f : Nat → Int} {a st k : Nat} {tv : Value} {b off : Nat} (h : Sc w sb (some ⟨b, off, none⟩) n cap f a st k tv) (b0 e0 c : Nat) (h0 : b0 ≤ e0) (h1 : e0 ≤ n) :
    (convert 48 9 (.slice (some ⟨b, off + b0, none⟩) (e0 - b0) c)).run Tryz.prog w = .ok (.string (BA (bytes f b0 e0))) w := by
  obtain ⟨b', off', e, hne, hc⟩ := h.byt
  cases e
  rw [← bytes_str]
  refine run_convert_bytes_arg (P := Tryz.prog) w 48 5 Tryz.underlying48 Tryz.underlying5 b (off + b0) (e0 - b0) c _ (by simp) (fun i hi => ?_) 9 Tryz.underlying9
  rw [Nat.add_assoc, hc (b0 + i) (by omega)]
  simp [List.getD, hi]

/-- What comes behind a byte of a name that doesn't end it. -/
def nmNext (f : Nat → Int) (n st b : Nat) (c : Int) (a a' : Nat) : Nat → Out (List UInt8)
  | 0 => nope f st
  | left + 1 => if nmC c (decide (a = b)) = true then nmR f n st b left a' else nope f st
theorem nmR_go (f : Nat → Int) (n st b left a : Nat) : nmR f n st b left a = (octet f n a).bind fun c a' =>
      if c = 62 ∧ b < a then .ok (bytes f b a) a' else nmNext f n st b c a a' left := by
  cases left <;> rfl
set_option maxHeartbeats 2000000 in
set_option maxRecDepth 100000 in
theorem name_any (sb : Nat) (ao : Option Addr) (n cap : Nat) (f : Nat → Int) (a st k : Nat) (tv : Value) (w : World) (h : Sc w sb ao n cap f a st k tv) :
    Calls Tryz.prog 172 #[.pointer (some ⟨sb, 0, none⟩)] w (End w sb ao n cap f st k tv sv (name f n st a)) := by
  obtain ⟨R, hR⟩ : ∃ R, name f n st a = R := ⟨_, rfl⟩
  rw [hR]
  have HR : Hid (R = nmR f n st a 20 (a + 0)) := by unfold Hid; rw [← hR]; rfl
  have HS : Hid (Sc w sb ao n cap f (a + 0) st k tv) := h
  have HF : Hid (∀ i, 0 ≤ f i ∧ f i ≤ 255) := h.ff
  have c1 := h.cells.2.1
  have hn := h.nn
  have ha := h.aa
  have hcc := h.cc
  have hcm := h.cm
  clear hR h
  go_enter Tryz.func172, Tryz.ntmps172
  go_wp2
  clear c1
  go_loopw [4] (fun s wr => ∃ (left size : Nat), size + left = 20 ∧ s = .int .i64 size ∧ Hid (R = nmR f n st a left (a + size)) ∧ Hid (Sc wr sb ao n cap f (a + size) st k tv) ∧ Hid (Tn sb w wr))
    (fun s _ => 20 - (intOf s).toNat)
  case atStart => exact ⟨20, 0, by omega, rfl, HR, HS, lin.Turns.refl _ _⟩
  case round =>
    obtain ⟨left, size, hsz, rfl, HQ, HW, HT⟩ := hrel
    have O := octet_any sb ao n cap f (a + size) st k tv wr HW.out
    obtain ⟨o, ho⟩ : ∃ o, octet f n (a + size) = o := ⟨_, rfl⟩
    rw [ho] at O
    have HQ2 : Hid (R = o.bind fun c a' => if c = 62 ∧ a < a + size then .ok (bytes f a (a + size)) a' else nmNext f n st a c (a + size) a' left) := (HQ.out.trans (nmR_go f n st a left (a + size))).trans (by rw [ho])
    have HC : Hid (∀ c a2, o = .ok c a2 → 0 ≤ c ∧ c ≤ 255 ∧ a2 = a + size + 1 ∧ a + size < n) := fun c a2 e => by
      rw [← ho] at e; unfold octet at e; split at e
      · rename_i hl; cases e; exact ⟨(HF.out _).1, (HF.out _).2, rfl, hl⟩
      · cases e
    clear HQ ho HS HR
    go_wp2_with fail
    refine O.mono ?_
    intro e w1 H
    clear O
    cases o with
    | no q p =>
      obtain ⟨rfl, ⟨a', k', S1⟩, T1⟩ := H
      obtain rfl : R = .no q p := HQ2.out
      have T2 := HT.out.trans T1
      go_wp2
      exact ⟨rfl, rfl, ⟨_, _, S1⟩, T2⟩
    | ok c a2 =>
      obtain ⟨rfl, S1, T1⟩ := H
      have T2 := HT.out.trans T1
      obtain ⟨hc0, hc1, hc2, hc3⟩ := HC.out c a2 rfl
      subst hc2
      unfold iv
      clear HC HT HW T1
      have N := none_any sb ao n cap f (a + size + 1) st k tv w1 S1
      rcases (show (c = 62 ∧ 0 < size) ∨ (c = 62 ∧ size = 0) ∨ ¬ c = 62 from by omega) with ⟨rfl, hsp⟩ | ⟨rfl, rfl⟩ | hne
      · have HR1 : Hid (R = .ok (bytes f a (a + size)) (a + size + 1)) := HQ2.out.trans (by rw [bind_ok, if_pos ⟨rfl, by omega⟩])
        clear HQ2 N
        have hs1 : (0 : Int) < (size : Int) := by omega
        obtain ⟨a2, ha2⟩ : ∃ a2, a + size + 1 = a2 := ⟨_, rfl⟩
        rw [ha2] at S1
        obtain rfl : R = .ok (bytes f a (a2 - 1)) a2 := by rw [HR1.out, ha2, show a + size = a2 - 1 by omega]
        clear HR1
        obtain ⟨d0, d1, d2, -⟩ := S1.cells
        obtain ⟨b, off, rfl, hbn, -⟩ := S1.byt
        have CV := S1.conv a (a2 - 1) (cap - a) (by omega) (by omega)
        have CVD := S1.drew.conv a (a2 - 1) (cap - a) (by omega) (by omega)
        obtain ⟨X, hX⟩ : ∃ X, BA (bytes f a (a2 - 1)) = X := ⟨_, rfl⟩
        rw [hX] at CV CVD
        have HX : Hid (BA (bytes f a (a2 - 1)) = X) := hX
        clear hX
        have l1 : (0 : Int) ≤ (a : Int) := by omega
        have l2 : (a : Int) ≤ (a2 : Int) - 1 := by omega
        have l3 : (a2 : Int) - 1 ≤ (cap : Int) := by omega
        have l4 : (a : Int) < (cap : Int) := by omega
        have l5 : ¬ cap = a := by omega
        have l6 : ¬ cap - a = 0 := by omega
        have l9 : IntKind.i64.wrap ((a2 : Int) - 1) = (a2 : Int) - 1 := by rw [IntKind.wrap_i64]; omega
        have lA : ((a2 : Int) - 1).toNat = a2 - 1 := by omega
        have lB : ((a2 : Int) - 1 - (a : Int)).toNat = a2 - 1 - a := by omega
        have HS1 : Hid (Sc w1 sb (some ⟨b, off, none⟩) n cap f a2 st k tv) := S1
        have HT2 : Hid (Tn sb w w1) := T2
        clear S1 T2 ha2
        go_wp2
        go_region_held3 (fun w' => w'.cell? ⟨sb, 0, none⟩ = some (.slice (some ⟨b, off, none⟩) n cap) ∧ w'.cell? ⟨sb, 1, none⟩ = some (.int .i64 a2) ∧ (convert 48 9 (.slice (some ⟨b, off + a, none⟩) (a2 - 1 - a) (cap - a))).run Tryz.prog w' = .ok (.string X) w') (go_keep) (fail)
        go_wp2
        go_ret
        exact ⟨by unfold sv; rw [HX.out]; rfl, HS1.out.drew, Tn.drewN HT2.out 1⟩
      · obtain rfl : left = 20 := by omega
        obtain rfl : R = nope f st := HQ2.out.trans (by rw [bind_ok, if_neg (by omega)]; simp [nmNext, nmC, letterB, digitB])
        clear HQ2
        have L := isLetter_any 62 w1
        rw [show letterB 62 = false from by decide] at L
        go_wp2_with fail
        refine L.mono ?_
        rintro e w2 ⟨rfl, rfl⟩
        clear L
        go_wp2_with fail
        refine N.mono ?_
        rintro e w3 ⟨rfl, hbl⟩
        have S3 := S1.below hbl
        have T3 := Tn.beyond T2 hbl
        go_wp2
        exact ⟨rfl, rfl, ⟨_, _, S3⟩, T3⟩
      · have m62 : (c == 62) = false := by simp [hne]
        have HQ3 : Hid (R = nmNext f n st a c (a + size) (a + size + 1) left) := by unfold Hid; rw [HQ2.out, bind_ok, if_neg (fun h => hne h.1)]
        clear HQ2 hne
        cases left with
        | zero =>
          obtain rfl : R = nope f st := HQ3.out
          obtain rfl : size = 20 := by omega
          clear HQ3
          go_wp2_with fail
          refine N.mono ?_
          rintro e w3 ⟨rfl, hbl⟩
          have S3 := S1.below hbl
          have T3 := Tn.beyond T2 hbl
          go_wp2
          exact ⟨rfl, rfl, ⟨_, _, S3⟩, T3⟩
        | succ l =>
          have hsn : ¬ ((size : Int) = 20) := by omega
          have hsn2 : ((size : Int) == 20) = false := by simp; omega
          have HQ4 : Hid (R = if nmC c (decide (a + size = a)) = true then nmR f n st a l (a + (size + 1)) else nope f st) := HQ3.out
          clear HQ3
          by_cases h95 : c = 95
          · have HQ5 : Hid (R = nmR f n st a l (a + (size + 1))) := by unfold Hid; rw [HQ4.out, if_pos (by unfold nmC; simp [h95])]
            subst h95
            clear HQ4 N
            go_wp2
            refine ⟨⟨l, size + 1, by omega, by simp, HQ5, S1, T2⟩, ?_⟩
            (first | simp [intOf] | simp [Go.RowKit.intOf]); omega
          · have m95 : (c != 95) = true := by simp [h95]
            have m95b : (c == 95) = false := by simp [h95]
            have L := isLetter_any c w1
            obtain ⟨bl, hbl⟩ : ∃ b, letterB c = b := ⟨_, rfl⟩
            rw [hbl] at L
            have HL : Hid (letterB c = bl) := hbl
            clear hbl h95
            have D := isDigit_any c w1
            obtain ⟨bd, hbd⟩ : ∃ b, digitB c = b := ⟨_, rfl⟩
            rw [hbd] at D
            have HD : Hid (digitB c = bd) := hbd
            clear hbd
            go_wp2_with fail
            refine L.mono ?_
            rintro e w2 ⟨rfl, rfl⟩
            clear L
            cases bl with
            | true =>
              have HQ5 : Hid (R = nmR f n st a l (a + (size + 1))) := by unfold Hid; rw [HQ4.out, if_pos (by unfold nmC; simp [HL.out])]
              clear HQ4 N D
              go_wp2
              refine ⟨⟨l, size + 1, by omega, by simp, HQ5, S1, T2⟩, ?_⟩
              (first | simp [intOf] | simp [Go.RowKit.intOf]); omega
            | false =>
              by_cases hz : size = 0
              · subst hz
                obtain rfl : R = nope f st := by rw [HQ4.out, if_neg (by unfold nmC; simp [HL.out, m95b])]
                clear HQ4 D
                go_wp2_with fail
                refine N.mono ?_
                rintro e w3 ⟨rfl, hbl⟩
                have S3 := S1.below hbl
                have T3 := Tn.beyond T2 hbl
                go_wp2
                exact ⟨rfl, rfl, ⟨_, _, S3⟩, T3⟩
              · have hz2 : ((size : Int) == 0) = false := by simp; omega
                have hz3 : ¬ ((size : Int) = 0) := by omega
                go_wp2_with fail
                refine D.mono ?_
                rintro e w3 ⟨rfl, rfl⟩
                clear D
                cases bd with
                | true =>
                  have HQ5 : Hid (R = nmR f n st a l (a + (size + 1))) := by unfold Hid; rw [HQ4.out, if_pos (by unfold nmC; simp [HL.out, HD.out, hz])]
                  clear HQ4 N
                  go_wp2
                  refine ⟨⟨l, size + 1, by omega, by simp, HQ5, S1, T2⟩, ?_⟩
                  (first | simp [intOf] | simp [Go.RowKit.intOf]); omega
                | false =>
                  obtain rfl : R = nope f st := by rw [HQ4.out, if_neg (by unfold nmC; simp [HL.out, HD.out, m95b])]
                  clear HQ4
                  go_wp2_with fail
                  refine N.mono ?_
                  rintro e w4 ⟨rfl, hbl⟩
                  have S3 := S1.below hbl
                  have T3 := Tn.beyond T2 hbl
                  go_wp2
                  exact ⟨rfl, rfl, ⟨_, _, S3⟩, T3⟩
end Go.Proofs.YtbdediacfckpcaaGreatDoor.tok
end

section
/- Escapes and marks: numbers, names, references. -/
set_option linter.unusedVariables false
set_option linter.unusedSimpArgs false
namespace Go.Proofs.YtbdediacfckpcaaGreatDoor.tok
open Go.RowKit
open lin (BA Turns)

/-- utf.Encode: whether a number is a code point that has bytes. -/
theorem enc_any (r : Int) (w : World) (hm : utf.Marks w) :
    Calls Tryz.prog 60 #[.int .i64 r] w fun e w' => ∃ v, e = .returned (.tuple #[v, .bool (decide (utf.len r ≠ 0))]) ∧ Below w.heap.size w w' := by
  by_cases h : utf.len r = 0
  · refine (utf.enc_no r w h).mono ?_
    rintro e w' ⟨rfl, rfl⟩
    exact ⟨_, by rw [h]; rfl, Below.refl _ _⟩
  · refine (utf.enc_yes r w h hm).mono ?_
    rintro e w' ⟨rfl, rfl⟩
    have : decide (utf.len r ≠ 0) = true := by simp [h]
    exact ⟨_, by rw [this], (Below.refl _ _).alloc (Nat.le_refl _) _⟩
set_option maxHeartbeats 8000000 in
set_option maxRecDepth 100000 in
theorem hex_any (sb : Nat) (ao : Option Addr) (n cap : Nat) (f : Nat → Int) (a st k : Nat) (tv : Value) (w : World) (h : Sc w sb ao n cap f a st k tv) :
    Calls Tryz.prog 144 #[.pointer (some ⟨sb, 0, none⟩)] w (End w sb ao n cap f st k tv Tk.val (hex f n st a)) := by
  have hlt := h.lt
  have hgn : w.heap.size ≠ sb := by omega
  have hgn' : ¬ w.heap.size = sb := by omega
  have hgn2 : ¬ sb = w.heap.size := by omega
  have S0 := h.alloc (.cells #[.int .i64 0, .int .i64 0, .int .i64 0, .int .i64 0, .string ⟨#[]⟩, .bool false, .int .i64 0, .int .i64 0] 98)
  have T0 : Tn sb w _ := Tn.more (lin.Turns.refl _ w) (.cells #[.int .i64 0, .int .i64 0, .int .i64 0, .int .i64 0, .string ⟨#[]⟩, .bool false, .int .i64 0, .int .i64 0] 98)
  have G0 : (w.alloc (.cells #[.int .i64 0, .int .i64 0, .int .i64 0, .int .i64 0, .string ⟨#[]⟩, .bool false, .int .i64 0, .int .i64 0] 98)).heap[w.heap.size]? = some (.cells #[.int .i64 0, .int .i64 0, .int .i64 0, .int .i64 0, .string ⟨#[]⟩, .bool false, .int .i64 0, .int .i64 0] 98 (0, 0)) := World.alloc_heap_new _ _
  obtain ⟨R, hR⟩ : ∃ R, hex f n st a = R := ⟨_, rfl⟩
  rw [hR]
  have HR : Hid (hex f n st a = R) := hR
  clear hR
  go_enter Tryz.func144, Tryz.ntmps144
  have C := want_any sb ao n cap f a st k tv _ S0 123
  obtain ⟨o, ho⟩ : ∃ o, want f n st 123 a = o := ⟨_, rfl⟩
  rw [ho] at C
  have O01 : Hid (want f n st 123 a = o) := ho
  clear ho
  go_wp2_with fail
  refine C.mono ?_
  intro e w1 H
  clear C
  cases o with
  | no q p =>
    obtain ⟨rfl, ⟨a', k', S'⟩, T'⟩ := H
    obtain rfl : R = .no q p := by rw [← HR.out]; simp [hex, bind_ok, bind_no, O01.out]
    have T'' := T0.trans T'
    go_wp2
    exact ⟨rfl, rfl, ⟨_, _, S'⟩, T''⟩
  | ok u a1 =>
    obtain ⟨rfl, S1, T'⟩ := H
    have T1 := T0.trans T'
    have G1 := Tn.blk T' G0 hgn
    clear T' S0 T0 G0
    unfold uv
    have C := number_any sb ao n cap f a1 st k tv _ S1 16 6 (by decide) (by decide)
    obtain ⟨o, ho⟩ : ∃ o, number f n st 16 6 a1 = o := ⟨_, rfl⟩
    rw [ho] at C
    have O12 : Hid (number f n st 16 6 a1 = o) := ho
    clear ho
    go_wp2_with fail
    refine C.mono ?_
    intro e w2 H
    clear C
    cases o with
    | no q p =>
      obtain ⟨rfl, ⟨a', k', S'⟩, T'⟩ := H
      obtain rfl : R = .no q p := by rw [← HR.out]; simp [hex, bind_ok, bind_no, O01.out, O12.out]
      have T'' := T1.trans T'
      go_wp2
      exact ⟨rfl, rfl, ⟨_, _, S'⟩, T''⟩
    | ok q a2 =>
      obtain ⟨rfl, S2, T'⟩ := H
      have T2 := T1.trans T'
      have G2 := Tn.blk T' G1 hgn
      clear T' S1 T1 G1
      obtain ⟨r, m⟩ := q
      unfold nv
      simp only []
      have C := enc_any r w2 S2.mm
      go_wp2_with fail
      refine C.mono ?_
      rintro e w3 ⟨v, rfl, hb⟩
      clear C
      have S3 := S2.below hb
      have T3 := Tn.beyond T2 hb
      have G3 := (hb.block _ (Array.getElem?_eq_some_iff.1 G2).1).trans G2
      clear hb S2 T2 G2
      by_cases hl : utf.len r = 0
      ·
        rw [show decide (utf.len r ≠ 0) = false from by simp [hl]]
        obtain rfl : R = nope f st := by rw [← HR.out]; simp [hex, bind_ok, bind_no, O01.out, O12.out, hl]
        have C := none_any sb ao n cap f (a2) st k tv _ S3
        clear HR
        go_wp2_with fail
        refine C.mono ?_
        rintro e w' ⟨rfl, hb⟩
        have S' := S3.below hb
        have T' := Tn.beyond T3 hb
        go_wp2
        exact ⟨rfl, rfl, ⟨_, _, S'⟩, T'⟩
      ·
        rw [show decide (utf.len r ≠ 0) = true from by simp [hl]]
        have HL : Hid (¬ utf.len r = 0) := hl
        by_cases hm : m = 125
        ·
          subst hm
          obtain rfl : R = .ok (char r) (a2) := by rw [← HR.out]; simp [hex, bind_ok, bind_no, O01.out, O12.out, hl]
          clear HR
          have C := char_any r w3
          go_wp2_with fail
          refine C.mono ?_
          rintro e w4 ⟨rfl, hb⟩
          clear C
          have S4 := S3.below hb
          have T4 := Tn.beyond T3 hb
          have G4 := (hb.block _ (Array.getElem?_eq_some_iff.1 G3).1).trans G3
          clear hb S3 T3 G3
          rw [show (char r).val = .agg #[.int .i64 1, .int .i64 (0), .int .i64 r, .int .i64 (0), .string ⟨#[]⟩, .bool false, .int .i64 (0), .int .i64 (0)] from rfl]
          obtain ⟨⟨k0, k1, k2, k3, k4, k5, k6, k7⟩, ⟨f0, f1, f2, f3, f4, f5, f6, f7⟩⟩ := blk8 G4
          go_wp2
          obtain ⟨GF, SF, TF⟩ := set8 h S4 T4 G4 (Nat.le_refl _) (.int .i64 1) (.int .i64 (0)) (.int .i64 r) (.int .i64 (0)) (.string ⟨#[]⟩) (.bool false) (.int .i64 (0)) (.int .i64 (0))
          exact bodyPost_ret (results_cell_row Tryz.results144 _ _ w.heap.size _ _ _ _ rfl GF Tryz.underlying98 rfl infoTok) rfl ⟨rfl, SF, TF⟩
        ·
          have m1 : (m == 125) = false := by simp [hm]
          have m2 : (m != 125) = true := by simp [hm]
          obtain rfl : R = nope f st := by rw [← HR.out]; simp [hex, bind_ok, bind_no, O01.out, O12.out, hl, hm]
          have C := none_any sb ao n cap f (a2) st k tv _ S3
          clear HR
          go_wp2_with fail
          refine C.mono ?_
          rintro e w' ⟨rfl, hb⟩
          have S' := S3.below hb
          have T' := Tn.beyond T3 hb
          go_wp2
          exact ⟨rfl, rfl, ⟨_, _, S'⟩, T'⟩
set_option maxHeartbeats 8000000 in
set_option maxRecDepth 100000 in
theorem openLeft_any (sb : Nat) (ao : Option Addr) (n cap : Nat) (f : Nat → Int) (a st k : Nat) (tv : Value) (w : World) (h : Sc w sb ao n cap f a st k tv) :
    Calls Tryz.prog 163 #[.pointer (some ⟨sb, 0, none⟩)] w (End w sb ao n cap f st k tv Tk.val (openLeft f n st a)) := by
  have hlt := h.lt
  have hgn : w.heap.size ≠ sb := by omega
  have hgn' : ¬ w.heap.size = sb := by omega
  have hgn2 : ¬ sb = w.heap.size := by omega
  have S0 := h.alloc (.cells #[.int .i64 0, .int .i64 0, .int .i64 0, .int .i64 0, .string ⟨#[]⟩, .bool false, .int .i64 0, .int .i64 0] 98)
  have T0 : Tn sb w _ := Tn.more (lin.Turns.refl _ w) (.cells #[.int .i64 0, .int .i64 0, .int .i64 0, .int .i64 0, .string ⟨#[]⟩, .bool false, .int .i64 0, .int .i64 0] 98)
  have G0 : (w.alloc (.cells #[.int .i64 0, .int .i64 0, .int .i64 0, .int .i64 0, .string ⟨#[]⟩, .bool false, .int .i64 0, .int .i64 0] 98)).heap[w.heap.size]? = some (.cells #[.int .i64 0, .int .i64 0, .int .i64 0, .int .i64 0, .string ⟨#[]⟩, .bool false, .int .i64 0, .int .i64 0] 98 (0, 0)) := World.alloc_heap_new _ _
  obtain ⟨R, hR⟩ : ∃ R, openLeft f n st a = R := ⟨_, rfl⟩
  rw [hR]
  have HR : Hid (openLeft f n st a = R) := hR
  clear hR
  go_enter Tryz.func163, Tryz.ntmps163
  have C := accept_any sb ao n cap f (a) st k tv _ S0 61
  obtain ⟨b, hq⟩ : ∃ b, at_ f n (a) 61 = b := ⟨_, rfl⟩
  rw [hq] at C
  have Q01 : Hid (at_ f n (a) 61 = b) := hq
  clear hq
  go_wp2_with fail
  refine C.mono ?_
  rintro e w1 ⟨rfl, S1, T⟩
  have T1 := T0.trans T
  have G1 := Tn.blk T G0 hgn
  clear C T S0 T0 G0
  cases b with
  | true =>
    rw [if_pos rfl] at S1
    obtain rfl : R = .ok (opening 5) (a + 1) := by rw [← HR.out]; simp [openLeft, bind_ok, bind_no, Q01.out]
    clear HR
    have C := opening_any 5 w1
    go_wp2_with fail
    refine C.mono ?_
    rintro e w2 ⟨rfl, hb⟩
    clear C
    have S2 := S1.below hb
    have T2 := Tn.beyond T1 hb
    have G2 := (hb.block _ (Array.getElem?_eq_some_iff.1 G1).1).trans G1
    clear hb S1 T1 G1
    rw [show (opening 5).val = .agg #[.int .i64 3, .int .i64 5, .int .i64 (0), .int .i64 (0), .string ⟨#[]⟩, .bool false, .int .i64 (0), .int .i64 (0)] from rfl]
    obtain ⟨⟨k0, k1, k2, k3, k4, k5, k6, k7⟩, ⟨f0, f1, f2, f3, f4, f5, f6, f7⟩⟩ := blk8 G2
    go_wp2
    obtain ⟨GF, SF, TF⟩ := set8 h S2 T2 G2 (Nat.le_refl _) (.int .i64 3) (.int .i64 5) (.int .i64 (0)) (.int .i64 (0)) (.string ⟨#[]⟩) (.bool false) (.int .i64 (0)) (.int .i64 (0))
    exact bodyPost_ret (results_cell_row Tryz.results163 _ _ w.heap.size _ _ _ _ rfl GF Tryz.underlying98 rfl infoTok) rfl ⟨rfl, SF, TF⟩
  | false =>
    rw [if_neg (by decide)] at S1
    have C := accept_any sb ao n cap f (a) st k tv _ S1 33
    obtain ⟨b, hq⟩ : ∃ b, at_ f n (a) 33 = b := ⟨_, rfl⟩
    rw [hq] at C
    have Q12 : Hid (at_ f n (a) 33 = b) := hq
    clear hq
    go_wp2_with fail
    refine C.mono ?_
    rintro e w2 ⟨rfl, S2, T⟩
    have T2 := T1.trans T
    have G2 := Tn.blk T G1 hgn
    clear C T S1 T1 G1
    cases b with
    | true =>
      rw [if_pos rfl] at S2
      obtain rfl : R = .ok (opening 6) (a + 1) := by rw [← HR.out]; simp [openLeft, bind_ok, bind_no, Q01.out, Q12.out]
      clear HR
      have C := opening_any 6 w2
      go_wp2_with fail
      refine C.mono ?_
      rintro e w3 ⟨rfl, hb⟩
      clear C
      have S3 := S2.below hb
      have T3 := Tn.beyond T2 hb
      have G3 := (hb.block _ (Array.getElem?_eq_some_iff.1 G2).1).trans G2
      clear hb S2 T2 G2
      rw [show (opening 6).val = .agg #[.int .i64 3, .int .i64 6, .int .i64 (0), .int .i64 (0), .string ⟨#[]⟩, .bool false, .int .i64 (0), .int .i64 (0)] from rfl]
      obtain ⟨⟨k0, k1, k2, k3, k4, k5, k6, k7⟩, ⟨f0, f1, f2, f3, f4, f5, f6, f7⟩⟩ := blk8 G3
      go_wp2
      obtain ⟨GF, SF, TF⟩ := set8 h S3 T3 G3 (Nat.le_refl _) (.int .i64 3) (.int .i64 6) (.int .i64 (0)) (.int .i64 (0)) (.string ⟨#[]⟩) (.bool false) (.int .i64 (0)) (.int .i64 (0))
      exact bodyPost_ret (results_cell_row Tryz.results163 _ _ w.heap.size _ _ _ _ rfl GF Tryz.underlying98 rfl infoTok) rfl ⟨rfl, SF, TF⟩
    | false =>
      rw [if_neg (by decide)] at S2
      have C := opening_any 2 w2
      go_wp2_with fail
      refine C.mono ?_
      rintro e w3 ⟨rfl, hb⟩
      clear C
      have S3 := S2.below hb
      have T3 := Tn.beyond T2 hb
      have G3 := (hb.block _ (Array.getElem?_eq_some_iff.1 G2).1).trans G2
      clear hb S2 T2 G2
      rw [show (opening 2).val = .agg #[.int .i64 3, .int .i64 2, .int .i64 (0), .int .i64 (0), .string ⟨#[]⟩, .bool false, .int .i64 (0), .int .i64 (0)] from rfl]
      have hln : w3.heap.size ≠ sb := by have := S3.lt; omega
      have hgl : w.heap.size < w3.heap.size := (Array.getElem?_eq_some_iff.1 G3).1
      have L4 : (w3.alloc (.cells #[.int .i64 3, .int .i64 2, .int .i64 (0), .int .i64 (0), .string ⟨#[]⟩, .bool false, .int .i64 (0), .int .i64 (0)] 98)).heap[w3.heap.size]? = some (.cells #[.int .i64 3, .int .i64 2, .int .i64 (0), .int .i64 (0), .string ⟨#[]⟩, .bool false, .int .i64 (0), .int .i64 (0)] 98 (0, 0)) := World.alloc_heap_new _ _
      have S4 := S3.alloc (.cells #[.int .i64 3, .int .i64 2, .int .i64 (0), .int .i64 (0), .string ⟨#[]⟩, .bool false, .int .i64 (0), .int .i64 (0)] 98)
      have T4 := Tn.more T3 (.cells #[.int .i64 3, .int .i64 2, .int .i64 (0), .int .i64 (0), .string ⟨#[]⟩, .bool false, .int .i64 (0), .int .i64 (0)] 98)
      have G4 := (Below.heap_alloc w3 (.cells #[.int .i64 3, .int .i64 2, .int .i64 (0), .int .i64 (0), .string ⟨#[]⟩, .bool false, .int .i64 (0), .int .i64 (0)] 98) _ (Array.getElem?_eq_some_iff.1 G3).1).trans G3
      clear S3 T3 G3
      have C := name_any sb ao n cap f a st k tv _ S4
      obtain ⟨o, ho⟩ : ∃ o, name f n st a = o := ⟨_, rfl⟩
      rw [ho] at C
      have O43 : Hid (name f n st a = o) := ho
      clear ho
      go_wp2_with fail
      refine C.mono ?_
      intro e w5 H
      clear C
      cases o with
      | no q p =>
        obtain ⟨rfl, ⟨a', k', S'⟩, T'⟩ := H
        obtain rfl : R = .no q p := by rw [← HR.out]; simp [openLeft, bind_ok, bind_no, Q01.out, Q12.out, O43.out]
        have T'' := T4.trans T'
        go_wp2
        exact ⟨rfl, rfl, ⟨_, _, S'⟩, T''⟩
      | ok s a1 =>
        obtain ⟨rfl, S5, T'⟩ := H
        have T5 := T4.trans T'
        have G5 := Tn.blk T' G4 hgn
        have L5 := Tn.blk T' L4 hln
        clear T' S4 T4 G4

        unfold sv
        obtain rfl : R = .ok ⟨3, 2, 0, 0, s, false, 0, 0⟩ a1 := by rw [← HR.out]; simp [openLeft, bind_ok, bind_no, Q01.out, Q12.out, O43.out]
        clear HR
        obtain ⟨⟨k0, k1, k2, k3, k4, k5, k6, k7⟩, ⟨f0, f1, f2, f3, f4, f5, f6, f7⟩⟩ := blk8 G5
        obtain ⟨⟨l0, l1, l2, l3, l4, l5, l6, l7⟩, ⟨r0, r1, r2, r3, r4, r5, r6, r7⟩⟩ := blk8 L5
        have hq1 : ¬ w.heap.size = w3.heap.size := by omega
        have hq2 : ¬ w3.heap.size = w.heap.size := by omega
        go_wp2
        have SM := Sc.later h S5 (p := ⟨w3.heap.size, 4, none⟩) (by show w.heap.size ≤ w3.heap.size; omega) (.string (BA s))
        have TM := Tn.new T5 (p := ⟨w3.heap.size, 4, none⟩) (by show w.heap.size ≤ w3.heap.size; omega) (.string (BA s))
        have GM := (heap_setCell_other _ ⟨w3.heap.size, 4, none⟩ w.heap.size (.string (BA s)) (by show w.heap.size ≠ w3.heap.size; omega)).trans G5
        obtain ⟨GF, SF, TF⟩ := set8 h SM TM GM (Nat.le_refl _) (.int .i64 3) (.int .i64 2) (.int .i64 (0)) (.int .i64 (0)) (.string (BA s)) (.bool false) (.int .i64 (0)) (.int .i64 (0))
        exact bodyPost_ret (results_cell_row Tryz.results163 _ _ w.heap.size _ _ _ _ rfl GF Tryz.underlying98 rfl infoTok) rfl ⟨rfl, SF, TF⟩
set_option maxHeartbeats 8000000 in
set_option maxRecDepth 100000 in
theorem open_any (sb : Nat) (ao : Option Addr) (n cap : Nat) (f : Nat → Int) (a st k : Nat) (tv : Value) (w : World) (h : Sc w sb ao n cap f a st k tv) :
    Calls Tryz.prog 151 #[.pointer (some ⟨sb, 0, none⟩)] w (End w sb ao n cap f st k tv Tk.val (open_ f n st a)) := by
  have hlt := h.lt
  have hgn : w.heap.size ≠ sb := by omega
  have hgn' : ¬ w.heap.size = sb := by omega
  have hgn2 : ¬ sb = w.heap.size := by omega
  have S0 := h.alloc (.cells #[.int .i64 0, .int .i64 0, .int .i64 0, .int .i64 0, .string ⟨#[]⟩, .bool false, .int .i64 0, .int .i64 0] 98)
  have T0 : Tn sb w _ := Tn.more (lin.Turns.refl _ w) (.cells #[.int .i64 0, .int .i64 0, .int .i64 0, .int .i64 0, .string ⟨#[]⟩, .bool false, .int .i64 0, .int .i64 0] 98)
  have G0 : (w.alloc (.cells #[.int .i64 0, .int .i64 0, .int .i64 0, .int .i64 0, .string ⟨#[]⟩, .bool false, .int .i64 0, .int .i64 0] 98)).heap[w.heap.size]? = some (.cells #[.int .i64 0, .int .i64 0, .int .i64 0, .int .i64 0, .string ⟨#[]⟩, .bool false, .int .i64 0, .int .i64 0] 98 (0, 0)) := World.alloc_heap_new _ _
  obtain ⟨R, hR⟩ : ∃ R, open_ f n st a = R := ⟨_, rfl⟩
  rw [hR]
  have HR : Hid (open_ f n st a = R) := hR
  clear hR
  go_enter Tryz.func151, Tryz.ntmps151
  have C := accept_any sb ao n cap f (a) st k tv _ S0 63
  obtain ⟨b, hq⟩ : ∃ b, at_ f n (a) 63 = b := ⟨_, rfl⟩
  rw [hq] at C
  have Q01 : Hid (at_ f n (a) 63 = b) := hq
  clear hq
  go_wp2_with fail
  refine C.mono ?_
  rintro e w1 ⟨rfl, S1, T⟩
  have T1 := T0.trans T
  have G1 := Tn.blk T G0 hgn
  clear C T S0 T0 G0
  cases b with
  | true =>
    rw [if_pos rfl] at S1
    have C := octet_any sb ao n cap f (a + 1) st k tv _ S1
    obtain ⟨o, ho⟩ : ∃ o, octet f n (a + 1) = o := ⟨_, rfl⟩
    rw [ho] at C
    have O12 : Hid (octet f n (a + 1) = o) := ho
    clear ho
    go_wp2_with fail
    refine C.mono ?_
    intro e w2 H
    clear C
    cases o with
    | no q p =>
      obtain ⟨rfl, ⟨a', k', S'⟩, T'⟩ := H
      obtain rfl : R = .no q p := by rw [← HR.out]; simp [open_, bind_ok, bind_no, Q01.out, O12.out]
      have T'' := T1.trans T'
      go_wp2
      exact ⟨rfl, rfl, ⟨_, _, S'⟩, T''⟩
    | ok c a1 =>
      obtain ⟨rfl, S2, T'⟩ := H
      have T2 := T1.trans T'
      have G2 := Tn.blk T' G1 hgn
      clear T' S1 T1 G1
      unfold iv
      rcases (show c = 58 ∨ c = 61 ∨ c = 33 ∨ c = 62 ∨ c = 60 ∨ (¬ c = 58 ∧ ¬ c = 61 ∧ ¬ c = 33 ∧ ¬ c = 62 ∧ ¬ c = 60) from by omega) with rfl | rfl | rfl | rfl | rfl | ⟨n0, n1, n2, n3, n4⟩
      ·
        obtain rfl : R = .ok (opening 1) (a1) := by rw [← HR.out]; simp [open_, bind_ok, bind_no, Q01.out, O12.out]
        clear HR
        have C := opening_any 1 w2
        go_wp2_with fail
        refine C.mono ?_
        rintro e w3 ⟨rfl, hb⟩
        clear C
        have S3 := S2.below hb
        have T3 := Tn.beyond T2 hb
        have G3 := (hb.block _ (Array.getElem?_eq_some_iff.1 G2).1).trans G2
        clear hb S2 T2 G2
        rw [show (opening 1).val = .agg #[.int .i64 3, .int .i64 1, .int .i64 (0), .int .i64 (0), .string ⟨#[]⟩, .bool false, .int .i64 (0), .int .i64 (0)] from rfl]
        obtain ⟨⟨k0, k1, k2, k3, k4, k5, k6, k7⟩, ⟨f0, f1, f2, f3, f4, f5, f6, f7⟩⟩ := blk8 G3
        go_wp2
        obtain ⟨GF, SF, TF⟩ := set8 h S3 T3 G3 (Nat.le_refl _) (.int .i64 3) (.int .i64 1) (.int .i64 (0)) (.int .i64 (0)) (.string ⟨#[]⟩) (.bool false) (.int .i64 (0)) (.int .i64 (0))
        exact bodyPost_ret (results_cell_row Tryz.results151 _ _ w.heap.size _ _ _ _ rfl GF Tryz.underlying98 rfl infoTok) rfl ⟨rfl, SF, TF⟩
      ·
        obtain rfl : R = .ok (opening 3) (a1) := by rw [← HR.out]; simp [open_, bind_ok, bind_no, Q01.out, O12.out]
        clear HR
        have C := opening_any 3 w2
        go_wp2_with fail
        refine C.mono ?_
        rintro e w3 ⟨rfl, hb⟩
        clear C
        have S3 := S2.below hb
        have T3 := Tn.beyond T2 hb
        have G3 := (hb.block _ (Array.getElem?_eq_some_iff.1 G2).1).trans G2
        clear hb S2 T2 G2
        rw [show (opening 3).val = .agg #[.int .i64 3, .int .i64 3, .int .i64 (0), .int .i64 (0), .string ⟨#[]⟩, .bool false, .int .i64 (0), .int .i64 (0)] from rfl]
        obtain ⟨⟨k0, k1, k2, k3, k4, k5, k6, k7⟩, ⟨f0, f1, f2, f3, f4, f5, f6, f7⟩⟩ := blk8 G3
        go_wp2
        obtain ⟨GF, SF, TF⟩ := set8 h S3 T3 G3 (Nat.le_refl _) (.int .i64 3) (.int .i64 3) (.int .i64 (0)) (.int .i64 (0)) (.string ⟨#[]⟩) (.bool false) (.int .i64 (0)) (.int .i64 (0))
        exact bodyPost_ret (results_cell_row Tryz.results151 _ _ w.heap.size _ _ _ _ rfl GF Tryz.underlying98 rfl infoTok) rfl ⟨rfl, SF, TF⟩
      ·
        obtain rfl : R = .ok (opening 4) (a1) := by rw [← HR.out]; simp [open_, bind_ok, bind_no, Q01.out, O12.out]
        clear HR
        have C := opening_any 4 w2
        go_wp2_with fail
        refine C.mono ?_
        rintro e w3 ⟨rfl, hb⟩
        clear C
        have S3 := S2.below hb
        have T3 := Tn.beyond T2 hb
        have G3 := (hb.block _ (Array.getElem?_eq_some_iff.1 G2).1).trans G2
        clear hb S2 T2 G2
        rw [show (opening 4).val = .agg #[.int .i64 3, .int .i64 4, .int .i64 (0), .int .i64 (0), .string ⟨#[]⟩, .bool false, .int .i64 (0), .int .i64 (0)] from rfl]
        obtain ⟨⟨k0, k1, k2, k3, k4, k5, k6, k7⟩, ⟨f0, f1, f2, f3, f4, f5, f6, f7⟩⟩ := blk8 G3
        go_wp2
        obtain ⟨GF, SF, TF⟩ := set8 h S3 T3 G3 (Nat.le_refl _) (.int .i64 3) (.int .i64 4) (.int .i64 (0)) (.int .i64 (0)) (.string ⟨#[]⟩) (.bool false) (.int .i64 (0)) (.int .i64 (0))
        exact bodyPost_ret (results_cell_row Tryz.results151 _ _ w.heap.size _ _ _ _ rfl GF Tryz.underlying98 rfl infoTok) rfl ⟨rfl, SF, TF⟩
      ·
        obtain rfl : R = .ok (opening 7) (a1) := by rw [← HR.out]; simp [open_, bind_ok, bind_no, Q01.out, O12.out]
        clear HR
        have C := opening_any 7 w2
        go_wp2_with fail
        refine C.mono ?_
        rintro e w3 ⟨rfl, hb⟩
        clear C
        have S3 := S2.below hb
        have T3 := Tn.beyond T2 hb
        have G3 := (hb.block _ (Array.getElem?_eq_some_iff.1 G2).1).trans G2
        clear hb S2 T2 G2
        rw [show (opening 7).val = .agg #[.int .i64 3, .int .i64 7, .int .i64 (0), .int .i64 (0), .string ⟨#[]⟩, .bool false, .int .i64 (0), .int .i64 (0)] from rfl]
        obtain ⟨⟨k0, k1, k2, k3, k4, k5, k6, k7⟩, ⟨f0, f1, f2, f3, f4, f5, f6, f7⟩⟩ := blk8 G3
        go_wp2
        obtain ⟨GF, SF, TF⟩ := set8 h S3 T3 G3 (Nat.le_refl _) (.int .i64 3) (.int .i64 7) (.int .i64 (0)) (.int .i64 (0)) (.string ⟨#[]⟩) (.bool false) (.int .i64 (0)) (.int .i64 (0))
        exact bodyPost_ret (results_cell_row Tryz.results151 _ _ w.heap.size _ _ _ _ rfl GF Tryz.underlying98 rfl infoTok) rfl ⟨rfl, SF, TF⟩
      ·
        have C := openLeft_any sb ao n cap f a1 st k tv _ S2
        obtain ⟨o, ho⟩ : ∃ o, openLeft f n st a1 = o := ⟨_, rfl⟩
        rw [ho] at C
        obtain rfl : R = o := by rw [← HR.out, ← ho]; simp [open_, bind_ok, bind_no, Q01.out, O12.out]
        clear HR ho
        go_wp2_with fail
        refine C.mono ?_
        intro e w3 H
        clear C
        cases R with
        | no q p =>
          obtain ⟨rfl, ⟨a', k', S'⟩, T'⟩ := H
          have T'' := T2.trans T'
          go_wp2
          exact ⟨rfl, rfl, ⟨_, _, S'⟩, T''⟩
        | ok t a9 =>
          obtain ⟨rfl, S3, T'⟩ := H
          have T3 := T2.trans T'
          have G3 := Tn.blk T' G2 hgn
          clear T' S2 T2 G2
          obtain ⟨t1, t2, t3, t4, t5, t6, t7, t8⟩ := t
          unfold Tk.val
          obtain ⟨⟨k0, k1, k2, k3, k4, k5, k6, k7⟩, ⟨f0, f1, f2, f3, f4, f5, f6, f7⟩⟩ := blk8 G3
          go_wp2
          obtain ⟨GF, SF, TF⟩ := set8 h S3 T3 G3 (Nat.le_refl _) (.int .i64 t1) (.int .i64 t2) (.int .i64 t3) (.int .i64 t4) (.string (BA t5)) (.bool t6) (.int .i64 (t7 : Int)) (.int .i64 (t8 : Int))
          exact bodyPost_ret (results_cell_row Tryz.results151 _ _ w.heap.size _ _ _ _ rfl GF Tryz.underlying98 rfl infoTok) rfl ⟨rfl, SF, TF⟩
      ·
        have m0 : (c == 58) = false := by simp [n0]
        have m1 : (c == 61) = false := by simp [n1]
        have m2 : (c == 33) = false := by simp [n2]
        have m3 : (c == 62) = false := by simp [n3]
        have m4 : (c == 60) = false := by simp [n4]
        obtain rfl : R = nope f st := by rw [← HR.out]; simp [open_, bind_ok, bind_no, Q01.out, O12.out, n0, n1, n2, n3, n4]
        have C := none_any sb ao n cap f (a1) st k tv _ S2
        clear HR
        go_wp2_with fail
        refine C.mono ?_
        rintro e w' ⟨rfl, hb⟩
        have S' := S2.below hb
        have T' := Tn.beyond T2 hb
        go_wp2
        exact ⟨rfl, rfl, ⟨_, _, S'⟩, T'⟩
  | false =>
    rw [if_neg (by decide)] at S1
    obtain rfl : R = .ok (opening 0) (a) := by rw [← HR.out]; simp [open_, bind_ok, bind_no, Q01.out]
    clear HR
    have C := opening_any 0 w1
    go_wp2_with fail
    refine C.mono ?_
    rintro e w2 ⟨rfl, hb⟩
    clear C
    have S2 := S1.below hb
    have T2 := Tn.beyond T1 hb
    have G2 := (hb.block _ (Array.getElem?_eq_some_iff.1 G1).1).trans G1
    clear hb S1 T1 G1
    rw [show (opening 0).val = .agg #[.int .i64 3, .int .i64 0, .int .i64 (0), .int .i64 (0), .string ⟨#[]⟩, .bool false, .int .i64 (0), .int .i64 (0)] from rfl]
    obtain ⟨⟨k0, k1, k2, k3, k4, k5, k6, k7⟩, ⟨f0, f1, f2, f3, f4, f5, f6, f7⟩⟩ := blk8 G2
    go_wp2
    obtain ⟨GF, SF, TF⟩ := set8 h S2 T2 G2 (Nat.le_refl _) (.int .i64 3) (.int .i64 0) (.int .i64 (0)) (.int .i64 (0)) (.string ⟨#[]⟩) (.bool false) (.int .i64 (0)) (.int .i64 (0))
    exact bodyPost_ret (results_cell_row Tryz.results151 _ _ w.heap.size _ _ _ _ rfl GF Tryz.underlying98 rfl infoTok) rfl ⟨rfl, SF, TF⟩
set_option maxHeartbeats 8000000 in
set_option maxRecDepth 100000 in
theorem back_any (sb : Nat) (ao : Option Addr) (n cap : Nat) (f : Nat → Int) (a st k : Nat) (tv : Value) (w : World) (h : Sc w sb ao n cap f a st k tv) :
    Calls Tryz.prog 160 #[.pointer (some ⟨sb, 0, none⟩)] w (End w sb ao n cap f st k tv Tk.val (back f n st a)) := by
  have hlt := h.lt
  have hgn : w.heap.size ≠ sb := by omega
  have hgn' : ¬ w.heap.size = sb := by omega
  have hgn2 : ¬ sb = w.heap.size := by omega
  have S0 := h.alloc (.cells #[.int .i64 0, .int .i64 0, .int .i64 0, .int .i64 0, .string ⟨#[]⟩, .bool false, .int .i64 0, .int .i64 0] 98)
  have T0 : Tn sb w _ := Tn.more (lin.Turns.refl _ w) (.cells #[.int .i64 0, .int .i64 0, .int .i64 0, .int .i64 0, .string ⟨#[]⟩, .bool false, .int .i64 0, .int .i64 0] 98)
  have G0 : (w.alloc (.cells #[.int .i64 0, .int .i64 0, .int .i64 0, .int .i64 0, .string ⟨#[]⟩, .bool false, .int .i64 0, .int .i64 0] 98)).heap[w.heap.size]? = some (.cells #[.int .i64 0, .int .i64 0, .int .i64 0, .int .i64 0, .string ⟨#[]⟩, .bool false, .int .i64 0, .int .i64 0] 98 (0, 0)) := World.alloc_heap_new _ _
  obtain ⟨R, hR⟩ : ∃ R, back f n st a = R := ⟨_, rfl⟩
  rw [hR]
  have HR : Hid (back f n st a = R) := hR
  clear hR
  go_enter Tryz.func160, Tryz.ntmps160
  have C := octet_any sb ao n cap f a st k tv _ S0
  obtain ⟨o, ho⟩ : ∃ o, octet f n a = o := ⟨_, rfl⟩
  rw [ho] at C
  have O01 : Hid (octet f n a = o) := ho
  clear ho
  go_wp2_with fail
  refine C.mono ?_
  intro e w1 H
  clear C
  cases o with
  | no q p =>
    obtain ⟨rfl, ⟨a', k', S'⟩, T'⟩ := H
    obtain rfl : R = .no q p := by rw [← HR.out]; simp [back, bind_ok, bind_no, O01.out]
    have T'' := T0.trans T'
    go_wp2
    exact ⟨rfl, rfl, ⟨_, _, S'⟩, T''⟩
  | ok c a1 =>
    obtain ⟨rfl, S1, T'⟩ := H
    have T1 := T0.trans T'
    have G1 := Tn.blk T' G0 hgn
    clear T' S0 T0 G0
    unfold iv
    rcases (show c = 60 ∨ c = 123 ∨ (¬ c = 60 ∧ ¬ c = 123) from by omega) with rfl | rfl | ⟨n0, n1⟩
    ·
      have C := name_any sb ao n cap f a1 st k tv _ S1
      obtain ⟨o, ho⟩ : ∃ o, name f n st a1 = o := ⟨_, rfl⟩
      rw [ho] at C
      have O12 : Hid (name f n st a1 = o) := ho
      clear ho
      go_wp2_with fail
      refine C.mono ?_
      intro e w2 H
      clear C
      cases o with
      | no q p =>
        obtain ⟨rfl, ⟨a', k', S'⟩, T'⟩ := H
        obtain rfl : R = .no q p := by rw [← HR.out]; simp [back, bind_ok, bind_no, O01.out, O12.out]
        have T'' := T1.trans T'
        go_wp2
        exact ⟨rfl, rfl, ⟨_, _, S'⟩, T''⟩
      | ok s a2 =>
        obtain ⟨rfl, S2, T'⟩ := H
        have T2 := T1.trans T'
        have G2 := Tn.blk T' G1 hgn
        clear T' S1 T1 G1
        unfold sv
        obtain rfl : R = .ok (⟨9, 0, 0, 0, s, false, 0, 0⟩) (a2) := by rw [← HR.out]; simp [back, bind_ok, bind_no, O01.out, O12.out]
        clear HR
        obtain ⟨⟨k0, k1, k2, k3, k4, k5, k6, k7⟩, ⟨f0, f1, f2, f3, f4, f5, f6, f7⟩⟩ := blk8 G2
        go_wp2
        obtain ⟨GF, SF, TF⟩ := set8 h S2 T2 G2 (Nat.le_refl _) (.int .i64 9) (.int .i64 (0)) (.int .i64 (0)) (.int .i64 (0)) (.string (BA s)) (.bool false) (.int .i64 (0)) (.int .i64 (0))
        exact bodyPost_ret (results_cell_row Tryz.results160 _ _ w.heap.size _ _ _ _ rfl GF Tryz.underlying98 rfl infoTok) rfl ⟨rfl, SF, TF⟩
    ·
      have C := number_any sb ao n cap f a1 st k tv _ S1 10 2 (by decide) (by decide)
      obtain ⟨o, ho⟩ : ∃ o, number f n st 10 2 a1 = o := ⟨_, rfl⟩
      rw [ho] at C
      have O12 : Hid (number f n st 10 2 a1 = o) := ho
      clear ho
      go_wp2_with fail
      refine C.mono ?_
      intro e w2 H
      clear C
      cases o with
      | no q p =>
        obtain ⟨rfl, ⟨a', k', S'⟩, T'⟩ := H
        obtain rfl : R = .no q p := by rw [← HR.out]; simp [back, bind_ok, bind_no, O01.out, O12.out]
        have T'' := T1.trans T'
        go_wp2
        exact ⟨rfl, rfl, ⟨_, _, S'⟩, T''⟩
      | ok q a2 =>
        obtain ⟨rfl, S2, T'⟩ := H
        have T2 := T1.trans T'
        have G2 := Tn.blk T' G1 hgn
        clear T' S1 T1 G1
        obtain ⟨r, m⟩ := q
        unfold nv
        simp only []
        by_cases hm : m = 125
        ·
          subst hm
          by_cases hr : 0 < r
          ·
            obtain rfl : R = .ok (⟨9, 0, r, 0, [], false, 0, 0⟩) (a2) := by rw [← HR.out]; simp [back, bind_ok, bind_no, O01.out, O12.out, hr]
            clear HR
            obtain ⟨⟨k0, k1, k2, k3, k4, k5, k6, k7⟩, ⟨f0, f1, f2, f3, f4, f5, f6, f7⟩⟩ := blk8 G2
            go_wp2
            obtain ⟨GF, SF, TF⟩ := set8 h S2 T2 G2 (Nat.le_refl _) (.int .i64 9) (.int .i64 (0)) (.int .i64 r) (.int .i64 (0)) (.string ⟨#[]⟩) (.bool false) (.int .i64 (0)) (.int .i64 (0))
            exact bodyPost_ret (results_cell_row Tryz.results160 _ _ w.heap.size _ _ _ _ rfl GF Tryz.underlying98 rfl infoTok) rfl ⟨rfl, SF, TF⟩
          ·
            obtain rfl : R = nope f st := by rw [← HR.out]; simp [back, bind_ok, bind_no, O01.out, O12.out, hr]
            have C := none_any sb ao n cap f (a2) st k tv _ S2
            clear HR
            go_wp2_with fail
            refine C.mono ?_
            rintro e w' ⟨rfl, hb⟩
            have S' := S2.below hb
            have T' := Tn.beyond T2 hb
            go_wp2
            exact ⟨rfl, rfl, ⟨_, _, S'⟩, T'⟩
        ·
          have m1 : (m == 125) = false := by simp [hm]
          have m2 : (m != 125) = true := by simp [hm]
          obtain rfl : R = nope f st := by rw [← HR.out]; simp [back, bind_ok, bind_no, O01.out, O12.out, hm]
          have C := none_any sb ao n cap f (a2) st k tv _ S2
          clear HR
          go_wp2_with fail
          refine C.mono ?_
          rintro e w' ⟨rfl, hb⟩
          have S' := S2.below hb
          have T' := Tn.beyond T2 hb
          go_wp2
          exact ⟨rfl, rfl, ⟨_, _, S'⟩, T'⟩
    ·
      have m0 : (c == 60) = false := by simp [n0]
      have m1 : (c == 123) = false := by simp [n1]
      obtain rfl : R = nope f st := by rw [← HR.out]; simp [back, bind_ok, bind_no, O01.out, n0, n1]
      have C := none_any sb ao n cap f (a1) st k tv _ S1
      clear HR
      go_wp2_with fail
      refine C.mono ?_
      rintro e w' ⟨rfl, hb⟩
      have S' := S1.below hb
      have T' := Tn.beyond T1 hb
      go_wp2
      exact ⟨rfl, rfl, ⟨_, _, S'⟩, T'⟩
end Go.Proofs.YtbdediacfckpcaaGreatDoor.tok
end
