/- Texts that the proof leans on, one behind the other. -/
import Derived.Test.YtbdediacfckpcaaGreatDoorBeTok4
import Derived.Test.YtbdediacfckpcaaGreatDoorBeTok7
import Derived.Test.YtbdediacfckpcaaGreatDoorBeLin3
import Derived.Test.YtbdediacfckpcaaGreatDoorBeUpS1
import Derived.Test.YtbdediacfckpcaaGreatDoorBeLin1
import Derived.Test.YtbdediacfckpcaaGreatDoorBeUtf1

section
/- token.Print: what a pattern says for a code point. -/
set_option linter.unusedVariables false
set_option linter.unusedSimpArgs false
namespace Go.Proofs.YtbdediacfckpcaaGreatDoor.tok
open Go.RowKit
open utf (len enc)
open lin (BA Turns)

/-- The variables that Print reads. -/
structure PEnv (w : World) : Prop where
  mks : utf.Marks w
  bj : w.cell? ⟨7, 15, none⟩ = some (.int .u8 4)
  ml : ∃ m, w.cell? ⟨3, 0, none⟩ = some (.int .i64 m)
theorem PEnv.below {w w' : World} (h : PEnv w) (hb : Below w.heap.size w w') : PEnv w' := by
  obtain ⟨m, hm⟩ := h.ml
  exact ⟨h.mks.below hb, (hb.cell (World.block_lt_of_cell? w _ h.bj)).trans h.bj, m, (hb.cell (World.block_lt_of_cell? w _ hm)).trans hm⟩
/-- Numbers as a text. -/
def TX (L : List Int) : ByteArray := BA (Lib.bytesOf L)
theorem upper_low : ∀ n : Fin 128, ((lin.lowL n.val).map Lib.upperB) = Lib.bytesOf (hexU (n.val : Int)) := by decide +kernel
theorem low_asc : ∀ n : Fin 128, ∀ x ∈ lin.lowL n.val, x.toNat < 128 := by decide +kernel
theorem has_mark : ∀ n : Fin 128, ∀ c : Bool, Lib.contains (if c = true then [91, 93, 94, 45, 38, 126, 92] else [46, 91, 40, 41, 124, 42, 43, 63, 123, 94, 36, 92]) (Lib.bytesOf [(n.val : Int)]) = decide ((n.val : Int) ∈ (if c = true then marksC else marksO)) := by decide +kernel
theorem nowhere (x : UInt8) (rest : List UInt8) : ∀ s : List UInt8, (∀ b ∈ s, b ≠ x) → Lib.index s (x :: rest) = -1
  | [], _ => by simp [Lib.index]
  | b :: l, h => by
    have h1 := nowhere x rest l (fun c hc => h c (List.mem_cons_of_mem _ hc))
    have h2 : x ≠ b := fun e => h b (List.mem_cons_self ..) e.symm
    unfold Lib.index
    rw [h1]
    simp [List.isPrefixOf, h2]
theorem enc_high (r : Int) (hr : len r ≠ 0) (h : 128 ≤ r) : ∃ x rest, enc r = x :: rest ∧ 192 ≤ x ∧ x ≤ 255 := by
  obtain ⟨r0, r1, r2, c | c | c | c⟩ := utf.len_cases r hr
  · omega
  · exact ⟨_, _, utf.enc_of_2 r c.1, by omega, by omega⟩
  · exact ⟨_, _, utf.enc_of_3 r c.1, by omega, by omega⟩
  · exact ⟨_, _, utf.enc_of_4 r c.1, by omega, by omega⟩
theorem has_print (r : Int) (cls : Bool) (hr : len r ≠ 0) : Lib.contains (if cls = true then [91, 93, 94, 45, 38, 126, 92] else [46, 91, 40, 41, 124, 42, 43, 63, 123, 94, 36, 92]) (Lib.bytesOf (enc r)) = decide (r ∈ (if cls = true then marksC else marksO)) := by
  obtain ⟨r0, r1, -⟩ := utf.len_cases r hr
  by_cases h : r ≤ 127
  · rw [enc_low r r0 h]
    have := has_mark ⟨r.toNat, by omega⟩ cls
    rw [show ((⟨r.toNat, by omega⟩ : Fin 128).val : Int) = r by simp; omega] at this
    exact this
  · obtain ⟨x, rest, e, h1, h2⟩ := enc_high r hr (by omega)
    have hn : ¬ r ∈ (if cls = true then marksC else marksO) := fun hh => by have := marks_low r cls hh; omega
    rw [decide_eq_false hn, e]
    unfold Lib.contains
    have hx : (UInt8.ofNat x.toNat).toNat = x.toNat := by rw [UInt8.toNat_ofNat']; omega
    have hb : Lib.bytesOf (x :: rest) = UInt8.ofNat x.toNat :: Lib.bytesOf rest := by simp [Lib.bytesOf]
    rw [hb, nowhere]
    · decide
    · intro b hb2 e2
      have hb3 : b.toNat ≤ 126 := by
        revert hb2
        cases cls
        · simp only [Bool.false_eq_true, if_false, List.mem_cons, List.not_mem_nil, or_false]
          intro hb2
          rcases hb2 with rfl | rfl | rfl | rfl | rfl | rfl | rfl | rfl | rfl | rfl | rfl | rfl <;> decide
        · simp only [if_true, List.mem_cons, List.not_mem_nil, or_false]
          intro hb2
          rcases hb2 with rfl | rfl | rfl | rfl | rfl | rfl | rfl <;> decide
      rw [e2, hx] at hb3
      omega
theorem TX_size (L : List Int) : (TX L).size = L.length := by unfold TX; rw [lin.BA_size]; simp [Lib.bytesOf]
theorem TX_app (L M : List Int) : TX (L ++ M) = TX L ++ TX M := by
  unfold TX
  rw [show Lib.bytesOf (L ++ M) = Lib.bytesOf L ++ Lib.bytesOf M by simp [Lib.bytesOf]]
  exact (nam.BA_app _ _).symm
theorem enc_text (r : Int) (w : World) : (convert 48 9 (.slice (some ⟨w.heap.size, 0, none⟩) (enc r).length (enc r).length)).run Tryz.prog (w.alloc (utf.encBlock r)) = .ok (.string (TX (enc r))) (w.alloc (utf.encBlock r)) :=
  utf.bts_block (xs := enc r) (enc r).length (World.alloc_heap_new w (utf.encBlock r))
set_option maxHeartbeats 4000000 in
set_option maxRecDepth 100000 in
theorem print_false (r : Int) (w : World) (E : PEnv w) : Calls Tryz.prog 48 #[.int .i64 r, .bool false] w fun e w' => e = .returned (.string (TX (printL r false))) ∧ Below w.heap.size w w' := by
  by_cases hr : len r = 0
  · rw [print_none r false hr]
    have C := utf.enc_no r w hr
    clear E hr
    go_enter Tryz.func48, Tryz.ntmps48
    go_wp2_with fail
    refine C.mono ?_
    rintro e w1 ⟨rfl, rfl⟩
    go_wp2
    go_ret
    exact ⟨rfl, Below.refl _ _⟩
  · have C := utf.enc_yes r w hr E.mks
    have CV := enc_text r w
    have hp := utf.enc_pos r hr
    obtain ⟨r0, r1, -⟩ := utf.len_cases r hr
    obtain ⟨W, hW⟩ : ∃ W, w.alloc (utf.encBlock r) = W := ⟨_, rfl⟩
    have bW : Below w.heap.size w W := by rw [← hW]; exact (Below.refl _ _).alloc (Nat.le_refl _) _
    rw [hW] at C CV
    have HB : Hid (Below w.heap.size w W) := bW
    have EW := E.below bW
    have hbl := World.block_lt_of_cell? W _ EW.bj
    simp only [] at hbl
    obtain ⟨m, hm⟩ := EW.ml
    have HC : Hid (Lib.contains [46, 91, 40, 41, 124, 42, 43, 63, 123, 94, 36, 92] (Lib.bytesOf (enc r)) = decide (r ∈ marksO)) := has_print r false hr
    have hs := TX_size (enc r)
    have HPL : Hid (printL r false = if r < 32 ∨ r = 127 then [92, 120, 123] ++ hexU r ++ [125] else if r ∈ marksO then 92 :: enc r else enc r) := by unfold Hid printL; rw [if_neg hr]; rfl
    have HX1 : Hid (TX (92 :: enc r) = ⟨#[92]⟩ ++ TX (enc r)) := TX_app [92] (enc r)
    have HCT : Hid (∀ W, W.cell? ⟨3, 0, none⟩ = some (.int .i64 m) → Calls Tryz.prog 63 #[.string ⟨#[46, 91, 40, 41, 124, 42, 43, 63, 123, 94, 36, 92]⟩, .string (TX (enc r))] W fun e w' => e = .returned (.bool (decide (r ∈ marksO))) ∧ w' = W) := fun W h => by
      have := Tryz.strings_Contains ⟨#[46, 91, 40, 41, 124, 42, 43, 63, 123, 94, 36, 92]⟩ (TX (enc r)) m W (by decide) h
      rw [show Lib.contains (⟨#[46, 91, 40, 41, 124, 42, 43, 63, 123, 94, 36, 92]⟩ : ByteArray).data.toList (TX (enc r)).data.toList = decide (r ∈ marksO) from HC.out] at this
      exact this
    obtain ⟨X, hX⟩ : ∃ X, TX (enc r) = X := ⟨_, rfl⟩
    rw [hX] at CV hs HX1 HCT
    have HXE : Hid (TX (enc r) = X) := hX
    clear hX
    obtain ⟨K, hK⟩ : ∃ K, (enc r).length = K := ⟨_, rfl⟩
    rw [hK] at C CV hs hp
    by_cases hc : r < 32 ∨ r = 127
    · have HP2 : Hid (printL r false = [92, 120, 123] ++ hexU r ++ [125]) := by unfold Hid; rw [HPL.out, if_pos hc]
      obtain ⟨n, rfl⟩ : ∃ n : Nat, r = n := ⟨r.toNat, by omega⟩
      have hn : n < 128 := by omega
      have FM := lin.fmt_any n W (by omega) EW.bj hbl
      have hup := upper_low ⟨n, hn⟩
      have hll := lin.lowL_len 1 n (by omega)
      have UP : ∀ W, Calls Tryz.prog 61 #[.string (BA (lin.lowL n))] W fun e w' => e = .returned (.string (TX (hexU (n : Int)))) ∧ Below W.heap.size W w' := fun W => by
        have := Tryz.strings_ToUpper_ascii (BA (lin.lowL n)) W (by rw [lin.BA_size]; omega) (fun j b hb => low_asc ⟨n, hn⟩ b (List.mem_of_getElem? hb))
        rw [show (⟨(Lib.toUpperA (BA (lin.lowL n)).data.toList).toArray⟩ : ByteArray) = TX (hexU (n : Int)) from by unfold TX; rw [← hup]; rfl] at this
        exact this
      have HT : Hid (TX (printL (n : Int) false) = ⟨#[92, 120, 123]⟩ ++ TX (hexU (n : Int)) ++ ⟨#[125]⟩) := by unfold Hid; rw [HP2.out, TX_app, TX_app]; rfl
      have hhs : (TX (hexU (n : Int))).size ≤ 2 := by rw [TX_size]; unfold hexU; split <;> simp
      have s1 : ByteArray.size ⟨#[92, 120, 123]⟩ = 3 := rfl
      have s2 : ByteArray.size ⟨#[125]⟩ = 1 := rfl
      rw [HT.out]
      obtain ⟨Q, hQ⟩ : ∃ Q, printL (n : Int) false = Q := ⟨_, rfl⟩
      clear hQ Q HT HP2 HPL HC HCT HX1 hup E EW
      generalize TX (hexU (n : Int)) = H at *
      have d1 : ((⟨#[92, 120, 123]⟩ : ByteArray) ++ H).size ≤ 5 := by rw [ByteArray.size_append]; show 3 + H.size ≤ 5; omega
      generalize BA (lin.lowL n) = LL at *
      rcases (show n < 32 ∨ n = 127 from by omega) with h32 | h127
      · have c1 : (n : Int) < 32 := by omega
        clear hc
        go_enter Tryz.func48, Tryz.ntmps48
        go_wp2_with fail
        refine C.mono ?_
        rintro e w1 ⟨rfl, rfl⟩
        clear C
        go_wp2_with fail
        refine FM.mono ?_
        rintro e w2 ⟨rfl, hb2⟩
        go_wp2_with fail
        refine (UP _).mono ?_
        rintro e w3 ⟨rfl, hb3⟩
        generalize (⟨#[92, 120, 123]⟩ : ByteArray) ++ H = Y at *
        go_wp2
        go_ret
        exact ⟨rfl, (HB.out.trans (hb2.mono HB.out.size)).trans (hb3.mono (Nat.le_trans HB.out.size hb2.size))⟩
      · subst h127
        clear hc
        go_enter Tryz.func48, Tryz.ntmps48
        go_wp2_with fail
        refine C.mono ?_
        rintro e w1 ⟨rfl, rfl⟩
        clear C
        go_wp2_with fail
        refine FM.mono ?_
        rintro e w2 ⟨rfl, hb2⟩
        go_wp2_with fail
        refine (UP _).mono ?_
        rintro e w3 ⟨rfl, hb3⟩
        generalize (⟨#[92, 120, 123]⟩ : ByteArray) ++ H = Y at *
        go_wp2
        go_ret
        exact ⟨rfl, (HB.out.trans (hb2.mono HB.out.size)).trans (hb3.mono (Nat.le_trans HB.out.size hb2.size))⟩
    · have HP2 : Hid (printL r false = if r ∈ marksO then 92 :: enc r else enc r) := by unfold Hid; rw [HPL.out, if_neg hc]
      have CT := HCT.out W hm
      have c1 : ¬ r < 32 := by omega
      have c2 : ¬ r = 127 := by omega
      have c3 : (r == 127) = false := by simp [c2]
      have s1 : ByteArray.size ⟨#[92]⟩ = 1 := rfl
      by_cases hmk : r ∈ marksO
      · have HT : Hid (TX (printL r false) = ⟨#[92]⟩ ++ X) := by unfold Hid; rw [HP2.out, if_pos hmk]; exact HX1.out
        rw [HT.out]
        rw [decide_eq_true hmk] at CT
        clear HT HP2 HPL HC HCT HX1 E EW hc hmk
        go_enter Tryz.func48, Tryz.ntmps48
        go_wp2_with fail
        refine C.mono ?_
        rintro e w1 ⟨rfl, rfl⟩
        clear C
        go_wp2_with fail
        refine CT.mono ?_
        rintro e w2 ⟨rfl, rfl⟩
        go_wp2
        go_ret
        exact ⟨rfl, HB.out⟩
      · have HT : Hid (TX (printL r false) = X) := by unfold Hid; rw [HP2.out, if_neg hmk]; exact HXE.out
        rw [HT.out]
        rw [decide_eq_false hmk] at CT
        clear HT HP2 HPL HC HCT HX1 E EW hc hmk HXE
        go_enter Tryz.func48, Tryz.ntmps48
        go_wp2_with fail
        refine C.mono ?_
        rintro e w1 ⟨rfl, rfl⟩
        clear C
        go_wp2_with fail
        refine CT.mono ?_
        rintro e w2 ⟨rfl, rfl⟩
        go_wp2
        go_ret
        exact ⟨rfl, HB.out⟩
set_option maxHeartbeats 4000000 in
set_option maxRecDepth 100000 in
theorem print_true (r : Int) (w : World) (E : PEnv w) : Calls Tryz.prog 48 #[.int .i64 r, .bool true] w fun e w' => e = .returned (.string (TX (printL r true))) ∧ Below w.heap.size w w' := by
  by_cases hr : len r = 0
  · rw [print_none r true hr]
    have C := utf.enc_no r w hr
    clear E hr
    go_enter Tryz.func48, Tryz.ntmps48
    go_wp2_with fail
    refine C.mono ?_
    rintro e w1 ⟨rfl, rfl⟩
    go_wp2
    go_ret
    exact ⟨rfl, Below.refl _ _⟩
  · have C := utf.enc_yes r w hr E.mks
    have CV := enc_text r w
    have hp := utf.enc_pos r hr
    obtain ⟨r0, r1, -⟩ := utf.len_cases r hr
    obtain ⟨W, hW⟩ : ∃ W, w.alloc (utf.encBlock r) = W := ⟨_, rfl⟩
    have bW : Below w.heap.size w W := by rw [← hW]; exact (Below.refl _ _).alloc (Nat.le_refl _) _
    rw [hW] at C CV
    have HB : Hid (Below w.heap.size w W) := bW
    have EW := E.below bW
    have hbl := World.block_lt_of_cell? W _ EW.bj
    simp only [] at hbl
    obtain ⟨m, hm⟩ := EW.ml
    have HC : Hid (Lib.contains [91, 93, 94, 45, 38, 126, 92] (Lib.bytesOf (enc r)) = decide (r ∈ marksC)) := has_print r true hr
    have hs := TX_size (enc r)
    have HPL : Hid (printL r true = if r < 32 ∨ r = 127 then [92, 120, 123] ++ hexU r ++ [125] else if r ∈ marksC then 92 :: enc r else enc r) := by unfold Hid printL; rw [if_neg hr]; rfl
    have HX1 : Hid (TX (92 :: enc r) = ⟨#[92]⟩ ++ TX (enc r)) := TX_app [92] (enc r)
    have HCT : Hid (∀ W, W.cell? ⟨3, 0, none⟩ = some (.int .i64 m) → Calls Tryz.prog 63 #[.string ⟨#[91, 93, 94, 45, 38, 126, 92]⟩, .string (TX (enc r))] W fun e w' => e = .returned (.bool (decide (r ∈ marksC))) ∧ w' = W) := fun W h => by
      have := Tryz.strings_Contains ⟨#[91, 93, 94, 45, 38, 126, 92]⟩ (TX (enc r)) m W (by decide) h
      rw [show Lib.contains (⟨#[91, 93, 94, 45, 38, 126, 92]⟩ : ByteArray).data.toList (TX (enc r)).data.toList = decide (r ∈ marksC) from HC.out] at this
      exact this
    obtain ⟨X, hX⟩ : ∃ X, TX (enc r) = X := ⟨_, rfl⟩
    rw [hX] at CV hs HX1 HCT
    have HXE : Hid (TX (enc r) = X) := hX
    clear hX
    obtain ⟨K, hK⟩ : ∃ K, (enc r).length = K := ⟨_, rfl⟩
    rw [hK] at C CV hs hp
    by_cases hc : r < 32 ∨ r = 127
    · have HP2 : Hid (printL r true = [92, 120, 123] ++ hexU r ++ [125]) := by unfold Hid; rw [HPL.out, if_pos hc]
      obtain ⟨n, rfl⟩ : ∃ n : Nat, r = n := ⟨r.toNat, by omega⟩
      have hn : n < 128 := by omega
      have FM := lin.fmt_any n W (by omega) EW.bj hbl
      have hup := upper_low ⟨n, hn⟩
      have hll := lin.lowL_len 1 n (by omega)
      have UP : ∀ W, Calls Tryz.prog 61 #[.string (BA (lin.lowL n))] W fun e w' => e = .returned (.string (TX (hexU (n : Int)))) ∧ Below W.heap.size W w' := fun W => by
        have := Tryz.strings_ToUpper_ascii (BA (lin.lowL n)) W (by rw [lin.BA_size]; omega) (fun j b hb => low_asc ⟨n, hn⟩ b (List.mem_of_getElem? hb))
        rw [show (⟨(Lib.toUpperA (BA (lin.lowL n)).data.toList).toArray⟩ : ByteArray) = TX (hexU (n : Int)) from by unfold TX; rw [← hup]; rfl] at this
        exact this
      have HT : Hid (TX (printL (n : Int) true) = ⟨#[92, 120, 123]⟩ ++ TX (hexU (n : Int)) ++ ⟨#[125]⟩) := by unfold Hid; rw [HP2.out, TX_app, TX_app]; rfl
      have hhs : (TX (hexU (n : Int))).size ≤ 2 := by rw [TX_size]; unfold hexU; split <;> simp
      have s1 : ByteArray.size ⟨#[92, 120, 123]⟩ = 3 := rfl
      have s2 : ByteArray.size ⟨#[125]⟩ = 1 := rfl
      rw [HT.out]
      obtain ⟨Q, hQ⟩ : ∃ Q, printL (n : Int) true = Q := ⟨_, rfl⟩
      clear hQ Q HT HP2 HPL HC HCT HX1 hup E EW
      generalize TX (hexU (n : Int)) = H at *
      have d1 : ((⟨#[92, 120, 123]⟩ : ByteArray) ++ H).size ≤ 5 := by rw [ByteArray.size_append]; show 3 + H.size ≤ 5; omega
      generalize BA (lin.lowL n) = LL at *
      rcases (show n < 32 ∨ n = 127 from by omega) with h32 | h127
      · have c1 : (n : Int) < 32 := by omega
        clear hc
        go_enter Tryz.func48, Tryz.ntmps48
        go_wp2_with fail
        refine C.mono ?_
        rintro e w1 ⟨rfl, rfl⟩
        clear C
        go_wp2_with fail
        refine FM.mono ?_
        rintro e w2 ⟨rfl, hb2⟩
        go_wp2_with fail
        refine (UP _).mono ?_
        rintro e w3 ⟨rfl, hb3⟩
        generalize (⟨#[92, 120, 123]⟩ : ByteArray) ++ H = Y at *
        go_wp2
        go_ret
        exact ⟨rfl, (HB.out.trans (hb2.mono HB.out.size)).trans (hb3.mono (Nat.le_trans HB.out.size hb2.size))⟩
      · subst h127
        clear hc
        go_enter Tryz.func48, Tryz.ntmps48
        go_wp2_with fail
        refine C.mono ?_
        rintro e w1 ⟨rfl, rfl⟩
        clear C
        go_wp2_with fail
        refine FM.mono ?_
        rintro e w2 ⟨rfl, hb2⟩
        go_wp2_with fail
        refine (UP _).mono ?_
        rintro e w3 ⟨rfl, hb3⟩
        generalize (⟨#[92, 120, 123]⟩ : ByteArray) ++ H = Y at *
        go_wp2
        go_ret
        exact ⟨rfl, (HB.out.trans (hb2.mono HB.out.size)).trans (hb3.mono (Nat.le_trans HB.out.size hb2.size))⟩
    · have HP2 : Hid (printL r true = if r ∈ marksC then 92 :: enc r else enc r) := by unfold Hid; rw [HPL.out, if_neg hc]
      have CT := HCT.out W hm
      have c1 : ¬ r < 32 := by omega
      have c2 : ¬ r = 127 := by omega
      have c3 : (r == 127) = false := by simp [c2]
      have s1 : ByteArray.size ⟨#[92]⟩ = 1 := rfl
      by_cases hmk : r ∈ marksC
      · have HT : Hid (TX (printL r true) = ⟨#[92]⟩ ++ X) := by unfold Hid; rw [HP2.out, if_pos hmk]; exact HX1.out
        rw [HT.out]
        rw [decide_eq_true hmk] at CT
        clear HT HP2 HPL HC HCT HX1 E EW hc hmk
        go_enter Tryz.func48, Tryz.ntmps48
        go_wp2_with fail
        refine C.mono ?_
        rintro e w1 ⟨rfl, rfl⟩
        clear C
        go_wp2_with fail
        refine CT.mono ?_
        rintro e w2 ⟨rfl, rfl⟩
        go_wp2
        go_ret
        exact ⟨rfl, HB.out⟩
      · have HT : Hid (TX (printL r true) = X) := by unfold Hid; rw [HP2.out, if_neg hmk]; exact HXE.out
        rw [HT.out]
        rw [decide_eq_false hmk] at CT
        clear HT HP2 HPL HC HCT HX1 E EW hc hmk HXE
        go_enter Tryz.func48, Tryz.ntmps48
        go_wp2_with fail
        refine C.mono ?_
        rintro e w1 ⟨rfl, rfl⟩
        clear C
        go_wp2_with fail
        refine CT.mono ?_
        rintro e w2 ⟨rfl, rfl⟩
        go_wp2
        go_ret
        exact ⟨rfl, HB.out⟩
theorem print_any (r : Int) (cls : Bool) (w : World) (E : PEnv w) : Calls Tryz.prog 48 #[.int .i64 r, .bool cls] w fun e w' => e = .returned (.string (TX (printL r cls))) ∧ Below w.heap.size w w' := by
  cases cls
  · exact print_false r w E
  · exact print_true r w E
end Go.Proofs.YtbdediacfckpcaaGreatDoor.tok
end
