/- Texts that the proof leans on, one behind the other. -/
import Derived.Test.YtlgkfnecahgedaaGreatDoorBeTok5
import Derived.Test.YtlgkfnecahgedaaGreatDoorBeTok8
import Derived.Test.YtlgkfnecahgedaaGreatDoorBeLin4
import Derived.Test.YtlgkfnecahgedaaGreatDoorBeUpS1
import Derived.Test.YtlgkfnecahgedaaGreatDoorBeLin1
import Derived.Test.YtlgkfnecahgedaaGreatDoorBeUtf2
import Derived.Lib.ConvBytes

section
/- token.Print: what a pattern says for a code point. -/
set_option linter.unusedVariables false
set_option linter.unusedSimpArgs false
namespace Go.Proofs.YtlgkfnecahgedaaGreatDoor.tok
open Go.RowKit
open utf (len enc)
open lin (BA Turns)

/-- The variables that Print reads. -/
structure PEnv (w : World) : Prop where
  mks : utf.Marks w
  bj : w.cell? ⟨7, 15, none⟩ = some (.int .u8 4)
  ml : ∃ m, w.cell? ⟨3, 0, none⟩ = some (.int .i64 m)
theorem PEnv.below {w w' : World} (h : PEnv w) (hb : Below w.heap.size w w') : PEnv w' := by
  obtain ⟨m, hm⟩ := h.ml
  exact ⟨h.mks.below hb, (hb.cell (World.block_lt_of_cell? w _ h.bj)).trans h.bj, m, (hb.cell (World.block_lt_of_cell? w _ hm)).trans hm⟩
/-- Numbers as a text. -/
def TX (L : List Int) : ByteArray := BA (Lib.bytesOf L)
theorem TX_num (L : List Int) : strOfNums L = TX L := rfl
theorem upper_low : ∀ n : Fin 128, ((lin.lowL n.val).map Lib.upperB) = Lib.bytesOf (hexU (n.val : Int)) := by decide +kernel
theorem low_asc : ∀ n : Fin 128, ∀ x ∈ lin.lowL n.val, x.toNat < 128 := by decide +kernel
theorem has_mark : ∀ n : Fin 128, ∀ c : Bool, Lib.contains (if c = true then [91, 93, 94, 45, 38, 126, 92] else [46, 91, 40, 41, 124, 42, 43, 63, 123, 94, 36, 92]) (Lib.bytesOf [(n.val : Int)]) = decide ((n.val : Int) ∈ (if c = true then marksC else marksO)) := by decide +kernel
theorem nowhere (x : UInt8) (rest : List UInt8) : ∀ s : List UInt8, (∀ b ∈ s, b ≠ x) → Lib.index s (x :: rest) = -1
  | [], _ => by simp [Lib.index]
  | b :: l, h => by
    have h1 := nowhere x rest l (fun c hc => h c (List.mem_cons_of_mem _ hc))
    have h2 : x ≠ b := fun e => h b (List.mem_cons_self ..) e.symm
    unfold Lib.index
    rw [h1]
    simp [List.isPrefixOf, h2]
theorem enc_high (r : Int) (hr : len r ≠ 0) (h : 128 ≤ r) : ∃ x rest, enc r = x :: rest ∧ 192 ≤ x ∧ x ≤ 255 := by
  obtain ⟨r0, r1, r2, c | c | c | c⟩ := utf.len_cases r hr
  · omega
  · exact ⟨_, _, utf.enc_of_2 r c.1, by omega, by omega⟩
  · exact ⟨_, _, utf.enc_of_3 r c.1, by omega, by omega⟩
  · exact ⟨_, _, utf.enc_of_4 r c.1, by omega, by omega⟩
theorem has_print (r : Int) (cls : Bool) (hr : len r ≠ 0) : Lib.contains (if cls = true then [91, 93, 94, 45, 38, 126, 92] else [46, 91, 40, 41, 124, 42, 43, 63, 123, 94, 36, 92]) (Lib.bytesOf (enc r)) = decide (r ∈ (if cls = true then marksC else marksO)) := by
  obtain ⟨r0, r1, -⟩ := utf.len_cases r hr
  by_cases h : r ≤ 127
  · rw [enc_low r r0 h]
    have := has_mark ⟨r.toNat, by omega⟩ cls
    rw [show ((⟨r.toNat, by omega⟩ : Fin 128).val : Int) = r by simp; omega] at this
    exact this
  · obtain ⟨x, rest, e, h1, h2⟩ := enc_high r hr (by omega)
    have hn : ¬ r ∈ (if cls = true then marksC else marksO) := fun hh => by have := marks_low r cls hh; omega
    rw [decide_eq_false hn, e]
    unfold Lib.contains
    have hx : (UInt8.ofNat x.toNat).toNat = x.toNat := by rw [UInt8.toNat_ofNat']; omega
    have hb : Lib.bytesOf (x :: rest) = UInt8.ofNat x.toNat :: Lib.bytesOf rest := by simp [Lib.bytesOf]
    rw [hb, nowhere]
    · decide
    · intro b hb2 e2
      have hb3 : b.toNat ≤ 126 := by
        revert hb2
        cases cls
        · simp only [Bool.false_eq_true, if_false, List.mem_cons, List.not_mem_nil, or_false]
          intro hb2
          rcases hb2 with rfl | rfl | rfl | rfl | rfl | rfl | rfl | rfl | rfl | rfl | rfl | rfl <;> decide
        · simp only [if_true, List.mem_cons, List.not_mem_nil, or_false]
          intro hb2
          rcases hb2 with rfl | rfl | rfl | rfl | rfl | rfl | rfl <;> decide
      rw [e2, hx] at hb3
      omega
theorem TX_size (L : List Int) : (TX L).size = L.length := by unfold TX; rw [lin.BA_size]; simp [Lib.bytesOf]
theorem TX_app (L M : List Int) : TX (L ++ M) = TX L ++ TX M := by
  unfold TX
  rw [show Lib.bytesOf (L ++ M) = Lib.bytesOf L ++ Lib.bytesOf M by simp [Lib.bytesOf]]
  exact (nam.BA_app _ _).symm
theorem enc_text (r : Int) (w : World) : (convert 22 9 (.slice (some ⟨w.heap.size, 0, none⟩) (enc r).length (enc r).length)).run Tryz.prog (w.alloc (utf.encBlock r)) = .ok (.string (TX (enc r))) (w.alloc (utf.encBlock r)) :=
  utf.bts_block (xs := enc r) (enc r).length (World.alloc_heap_new w (utf.encBlock r))
set_option maxHeartbeats 4000000 in
set_option maxRecDepth 100000 in
theorem print_false (r : Int) (w : World) (E : PEnv w) : Calls Tryz.prog 14 #[.int .i64 r, .bool false] w fun e w' => e = .returned (.string (TX (printL r false))) ∧ Below w.heap.size w w' := by
  by_cases hr : len r = 0
  · rw [print_none r false hr]
    have C := utf.enc_no r w hr
    clear E hr
    go_enter Tryz.func14, Tryz.ntmps14
    go_wp2_with fail
    refine C.mono ?_
    rintro e w1 ⟨rfl, rfl⟩
    go_wp2
    go_ret
    exact ⟨rfl, Below.refl _ _⟩
  · have C := utf.enc_yes r w hr E.mks
    have CV := enc_text r w
    have hp := utf.enc_pos r hr
    obtain ⟨r0, r1, -⟩ := utf.len_cases r hr
    obtain ⟨W, hW⟩ : ∃ W, w.alloc (utf.encBlock r) = W := ⟨_, rfl⟩
    have bW : Below w.heap.size w W := by rw [← hW]; exact (Below.refl _ _).alloc (Nat.le_refl _) _
    rw [hW] at C CV
    have HB : Hid (Below w.heap.size w W) := bW
    have EW := E.below bW
    have hbl := World.block_lt_of_cell? W _ EW.bj
    simp only [] at hbl
    obtain ⟨m, hm⟩ := EW.ml
    have HC : Hid (Lib.contains [46, 91, 40, 41, 124, 42, 43, 63, 123, 94, 36, 92] (Lib.bytesOf (enc r)) = decide (r ∈ marksO)) := has_print r false hr
    have hs := TX_size (enc r)
    have HPL : Hid (printL r false = if r < 32 ∨ r = 127 then [92, 120, 123] ++ hexU r ++ [125] else if r ∈ marksO then 92 :: enc r else enc r) := by unfold Hid printL; rw [if_neg hr]; rfl
    have HX1 : Hid (TX (92 :: enc r) = ⟨#[92]⟩ ++ TX (enc r)) := TX_app [92] (enc r)
    have HCT : Hid (∀ W, W.cell? ⟨3, 0, none⟩ = some (.int .i64 m) → Calls Tryz.prog 21 #[.string ⟨#[46, 91, 40, 41, 124, 42, 43, 63, 123, 94, 36, 92]⟩, .string (TX (enc r))] W fun e w' => e = .returned (.bool (decide (r ∈ marksO))) ∧ w' = W) := fun W h => by
      have := Tryz.strings_Contains ⟨#[46, 91, 40, 41, 124, 42, 43, 63, 123, 94, 36, 92]⟩ (TX (enc r)) m W (by decide) h
      rw [show Lib.contains (⟨#[46, 91, 40, 41, 124, 42, 43, 63, 123, 94, 36, 92]⟩ : ByteArray).data.toList (TX (enc r)).data.toList = decide (r ∈ marksO) from HC.out] at this
      exact this
    obtain ⟨X, hX⟩ : ∃ X, TX (enc r) = X := ⟨_, rfl⟩
    rw [hX] at CV hs HX1 HCT
    have HXE : Hid (TX (enc r) = X) := hX
    clear hX
    obtain ⟨K, hK⟩ : ∃ K, (enc r).length = K := ⟨_, rfl⟩
    rw [hK] at C CV hs hp
    by_cases hc : r < 32 ∨ r = 127
    · have HP2 : Hid (printL r false = [92, 120, 123] ++ hexU r ++ [125]) := by unfold Hid; rw [HPL.out, if_pos hc]
      obtain ⟨n, rfl⟩ : ∃ n : Nat, r = n := ⟨r.toNat, by omega⟩
      have hn : n < 128 := by omega
      have FM := lin.fmt_any n W (by omega) EW.bj hbl
      have hup := upper_low ⟨n, hn⟩
      have hll := lin.lowL_len 1 n (by omega)
      have UP : ∀ W, Calls Tryz.prog 19 #[.string (BA (lin.lowL n))] W fun e w' => e = .returned (.string (TX (hexU (n : Int)))) ∧ Below W.heap.size W w' := fun W => by
        have := Tryz.strings_ToUpper_ascii (BA (lin.lowL n)) W (by rw [lin.BA_size]; omega) (fun j b hb => low_asc ⟨n, hn⟩ b (List.mem_of_getElem? hb))
        rw [show (⟨(Lib.toUpperA (BA (lin.lowL n)).data.toList).toArray⟩ : ByteArray) = TX (hexU (n : Int)) from by unfold TX; rw [← hup]; rfl] at this
        exact this
      have HT : Hid (TX (printL (n : Int) false) = ⟨#[92, 120, 123]⟩ ++ TX (hexU (n : Int)) ++ ⟨#[125]⟩) := by unfold Hid; rw [HP2.out, TX_app, TX_app]; rfl
      have hhs : (TX (hexU (n : Int))).size ≤ 2 := by rw [TX_size]; unfold hexU; split <;> simp
      have s1 : ByteArray.size ⟨#[92, 120, 123]⟩ = 3 := rfl
      have s2 : ByteArray.size ⟨#[125]⟩ = 1 := rfl
      rw [HT.out]
      obtain ⟨Q, hQ⟩ : ∃ Q, printL (n : Int) false = Q := ⟨_, rfl⟩
      clear hQ Q HT HP2 HPL HC HCT HX1 hup E EW
      generalize TX (hexU (n : Int)) = H at *
      have d1 : ((⟨#[92, 120, 123]⟩ : ByteArray) ++ H).size ≤ 5 := by rw [ByteArray.size_append]; show 3 + H.size ≤ 5; omega
      generalize BA (lin.lowL n) = LL at *
      rcases (show n < 32 ∨ n = 127 from by omega) with h32 | h127
      · have c1 : (n : Int) < 32 := by omega
        clear hc
        go_enter Tryz.func14, Tryz.ntmps14
        go_wp2_with fail
        refine C.mono ?_
        rintro e w1 ⟨rfl, rfl⟩
        clear C
        go_wp2_with fail
        refine FM.mono ?_
        rintro e w2 ⟨rfl, hb2⟩
        go_wp2_with fail
        refine (UP _).mono ?_
        rintro e w3 ⟨rfl, hb3⟩
        generalize (⟨#[92, 120, 123]⟩ : ByteArray) ++ H = Y at *
        go_wp2
        go_ret
        exact ⟨rfl, (HB.out.trans (hb2.mono HB.out.size)).trans (hb3.mono (Nat.le_trans HB.out.size hb2.size))⟩
      · subst h127
        clear hc
        go_enter Tryz.func14, Tryz.ntmps14
        go_wp2_with fail
        refine C.mono ?_
        rintro e w1 ⟨rfl, rfl⟩
        clear C
        go_wp2_with fail
        refine FM.mono ?_
        rintro e w2 ⟨rfl, hb2⟩
        go_wp2_with fail
        refine (UP _).mono ?_
        rintro e w3 ⟨rfl, hb3⟩
        generalize (⟨#[92, 120, 123]⟩ : ByteArray) ++ H = Y at *
        go_wp2
        go_ret
        exact ⟨rfl, (HB.out.trans (hb2.mono HB.out.size)).trans (hb3.mono (Nat.le_trans HB.out.size hb2.size))⟩
    · have HP2 : Hid (printL r false = if r ∈ marksO then 92 :: enc r else enc r) := by unfold Hid; rw [HPL.out, if_neg hc]
      have CT := HCT.out W hm
      have c1 : ¬ r < 32 := by omega
      have c2 : ¬ r = 127 := by omega
      have c3 : (r == 127) = false := by simp [c2]
      have s1 : ByteArray.size ⟨#[92]⟩ = 1 := rfl
      by_cases hmk : r ∈ marksO
      · have HT : Hid (TX (printL r false) = ⟨#[92]⟩ ++ X) := by unfold Hid; rw [HP2.out, if_pos hmk]; exact HX1.out
        rw [HT.out]
        rw [decide_eq_true hmk] at CT
        clear HT HP2 HPL HC HCT HX1 E EW hc hmk
        go_enter Tryz.func14, Tryz.ntmps14
        go_wp2_with fail
        refine C.mono ?_
        rintro e w1 ⟨rfl, rfl⟩
        clear C
        go_wp2_with fail
        refine CT.mono ?_
        rintro e w2 ⟨rfl, rfl⟩
        go_wp2
        go_ret
        exact ⟨rfl, HB.out⟩
      · have HT : Hid (TX (printL r false) = X) := by unfold Hid; rw [HP2.out, if_neg hmk]; exact HXE.out
        rw [HT.out]
        rw [decide_eq_false hmk] at CT
        clear HT HP2 HPL HC HCT HX1 E EW hc hmk HXE
        go_enter Tryz.func14, Tryz.ntmps14
        go_wp2_with fail
        refine C.mono ?_
        rintro e w1 ⟨rfl, rfl⟩
        clear C
        go_wp2_with fail
        refine CT.mono ?_
        rintro e w2 ⟨rfl, rfl⟩
        go_wp2
        go_ret
        exact ⟨rfl, HB.out⟩
set_option maxHeartbeats 4000000 in
set_option maxRecDepth 100000 in
theorem print_true (r : Int) (w : World) (E : PEnv w) : Calls Tryz.prog 14 #[.int .i64 r, .bool true] w fun e w' => e = .returned (.string (TX (printL r true))) ∧ Below w.heap.size w w' := by
  by_cases hr : len r = 0
  · rw [print_none r true hr]
    have C := utf.enc_no r w hr
    clear E hr
    go_enter Tryz.func14, Tryz.ntmps14
    go_wp2_with fail
    refine C.mono ?_
    rintro e w1 ⟨rfl, rfl⟩
    go_wp2
    go_ret
    exact ⟨rfl, Below.refl _ _⟩
  · have C := utf.enc_yes r w hr E.mks
    have CV := enc_text r w
    have hp := utf.enc_pos r hr
    obtain ⟨r0, r1, -⟩ := utf.len_cases r hr
    obtain ⟨W, hW⟩ : ∃ W, w.alloc (utf.encBlock r) = W := ⟨_, rfl⟩
    have bW : Below w.heap.size w W := by rw [← hW]; exact (Below.refl _ _).alloc (Nat.le_refl _) _
    rw [hW] at C CV
    have HB : Hid (Below w.heap.size w W) := bW
    have EW := E.below bW
    have hbl := World.block_lt_of_cell? W _ EW.bj
    simp only [] at hbl
    obtain ⟨m, hm⟩ := EW.ml
    have HC : Hid (Lib.contains [91, 93, 94, 45, 38, 126, 92] (Lib.bytesOf (enc r)) = decide (r ∈ marksC)) := has_print r true hr
    have hs := TX_size (enc r)
    have HPL : Hid (printL r true = if r < 32 ∨ r = 127 then [92, 120, 123] ++ hexU r ++ [125] else if r ∈ marksC then 92 :: enc r else enc r) := by unfold Hid printL; rw [if_neg hr]; rfl
    have HX1 : Hid (TX (92 :: enc r) = ⟨#[92]⟩ ++ TX (enc r)) := TX_app [92] (enc r)
    have HCT : Hid (∀ W, W.cell? ⟨3, 0, none⟩ = some (.int .i64 m) → Calls Tryz.prog 21 #[.string ⟨#[91, 93, 94, 45, 38, 126, 92]⟩, .string (TX (enc r))] W fun e w' => e = .returned (.bool (decide (r ∈ marksC))) ∧ w' = W) := fun W h => by
      have := Tryz.strings_Contains ⟨#[91, 93, 94, 45, 38, 126, 92]⟩ (TX (enc r)) m W (by decide) h
      rw [show Lib.contains (⟨#[91, 93, 94, 45, 38, 126, 92]⟩ : ByteArray).data.toList (TX (enc r)).data.toList = decide (r ∈ marksC) from HC.out] at this
      exact this
    obtain ⟨X, hX⟩ : ∃ X, TX (enc r) = X := ⟨_, rfl⟩
    rw [hX] at CV hs HX1 HCT
    have HXE : Hid (TX (enc r) = X) := hX
    clear hX
    obtain ⟨K, hK⟩ : ∃ K, (enc r).length = K := ⟨_, rfl⟩
    rw [hK] at C CV hs hp
    by_cases hc : r < 32 ∨ r = 127
    · have HP2 : Hid (printL r true = [92, 120, 123] ++ hexU r ++ [125]) := by unfold Hid; rw [HPL.out, if_pos hc]
      obtain ⟨n, rfl⟩ : ∃ n : Nat, r = n := ⟨r.toNat, by omega⟩
      have hn : n < 128 := by omega
      have FM := lin.fmt_any n W (by omega) EW.bj hbl
      have hup := upper_low ⟨n, hn⟩
      have hll := lin.lowL_len 1 n (by omega)
      have UP : ∀ W, Calls Tryz.prog 19 #[.string (BA (lin.lowL n))] W fun e w' => e = .returned (.string (TX (hexU (n : Int)))) ∧ Below W.heap.size W w' := fun W => by
        have := Tryz.strings_ToUpper_ascii (BA (lin.lowL n)) W (by rw [lin.BA_size]; omega) (fun j b hb => low_asc ⟨n, hn⟩ b (List.mem_of_getElem? hb))
        rw [show (⟨(Lib.toUpperA (BA (lin.lowL n)).data.toList).toArray⟩ : ByteArray) = TX (hexU (n : Int)) from by unfold TX; rw [← hup]; rfl] at this
        exact this
      have HT : Hid (TX (printL (n : Int) true) = ⟨#[92, 120, 123]⟩ ++ TX (hexU (n : Int)) ++ ⟨#[125]⟩) := by unfold Hid; rw [HP2.out, TX_app, TX_app]; rfl
      have hhs : (TX (hexU (n : Int))).size ≤ 2 := by rw [TX_size]; unfold hexU; split <;> simp
      have s1 : ByteArray.size ⟨#[92, 120, 123]⟩ = 3 := rfl
      have s2 : ByteArray.size ⟨#[125]⟩ = 1 := rfl
      rw [HT.out]
      obtain ⟨Q, hQ⟩ : ∃ Q, printL (n : Int) true = Q := ⟨_, rfl⟩
      clear hQ Q HT HP2 HPL HC HCT HX1 hup E EW
      generalize TX (hexU (n : Int)) = H at *
      have d1 : ((⟨#[92, 120, 123]⟩ : ByteArray) ++ H).size ≤ 5 := by rw [ByteArray.size_append]; show 3 + H.size ≤ 5; omega
      generalize BA (lin.lowL n) = LL at *
      rcases (show n < 32 ∨ n = 127 from by omega) with h32 | h127
      · have c1 : (n : Int) < 32 := by omega
        clear hc
        go_enter Tryz.func14, Tryz.ntmps14
        go_wp2_with fail
        refine C.mono ?_
        rintro e w1 ⟨rfl, rfl⟩
        clear C
        go_wp2_with fail
        refine FM.mono ?_
        rintro e w2 ⟨rfl, hb2⟩
        go_wp2_with fail
        refine (UP _).mono ?_
        rintro e w3 ⟨rfl, hb3⟩
        generalize (⟨#[92, 120, 123]⟩ : ByteArray) ++ H = Y at *
        go_wp2
        go_ret
        exact ⟨rfl, (HB.out.trans (hb2.mono HB.out.size)).trans (hb3.mono (Nat.le_trans HB.out.size hb2.size))⟩
      · subst h127
        clear hc
        go_enter Tryz.func14, Tryz.ntmps14
        go_wp2_with fail
        refine C.mono ?_
        rintro e w1 ⟨rfl, rfl⟩
        clear C
        go_wp2_with fail
        refine FM.mono ?_
        rintro e w2 ⟨rfl, hb2⟩
        go_wp2_with fail
        refine (UP _).mono ?_
        rintro e w3 ⟨rfl, hb3⟩
        generalize (⟨#[92, 120, 123]⟩ : ByteArray) ++ H = Y at *
        go_wp2
        go_ret
        exact ⟨rfl, (HB.out.trans (hb2.mono HB.out.size)).trans (hb3.mono (Nat.le_trans HB.out.size hb2.size))⟩
    · have HP2 : Hid (printL r true = if r ∈ marksC then 92 :: enc r else enc r) := by unfold Hid; rw [HPL.out, if_neg hc]
      have CT := HCT.out W hm
      have c1 : ¬ r < 32 := by omega
      have c2 : ¬ r = 127 := by omega
      have c3 : (r == 127) = false := by simp [c2]
      have s1 : ByteArray.size ⟨#[92]⟩ = 1 := rfl
      by_cases hmk : r ∈ marksC
      · have HT : Hid (TX (printL r true) = ⟨#[92]⟩ ++ X) := by unfold Hid; rw [HP2.out, if_pos hmk]; exact HX1.out
        rw [HT.out]
        rw [decide_eq_true hmk] at CT
        clear HT HP2 HPL HC HCT HX1 E EW hc hmk
        go_enter Tryz.func14, Tryz.ntmps14
        go_wp2_with fail
        refine C.mono ?_
        rintro e w1 ⟨rfl, rfl⟩
        clear C
        go_wp2_with fail
        refine CT.mono ?_
        rintro e w2 ⟨rfl, rfl⟩
        go_wp2
        go_ret
        exact ⟨rfl, HB.out⟩
      · have HT : Hid (TX (printL r true) = X) := by unfold Hid; rw [HP2.out, if_neg hmk]; exact HXE.out
        rw [HT.out]
        rw [decide_eq_false hmk] at CT
        clear HT HP2 HPL HC HCT HX1 E EW hc hmk HXE
        go_enter Tryz.func14, Tryz.ntmps14
        go_wp2_with fail
        refine C.mono ?_
        rintro e w1 ⟨rfl, rfl⟩
        clear C
        go_wp2_with fail
        refine CT.mono ?_
        rintro e w2 ⟨rfl, rfl⟩
        go_wp2
        go_ret
        exact ⟨rfl, HB.out⟩
theorem print_any (r : Int) (cls : Bool) (w : World) (E : PEnv w) : Calls Tryz.prog 14 #[.int .i64 r, .bool cls] w fun e w' => e = .returned (.string (TX (printL r cls))) ∧ Below w.heap.size w w' := by
  cases cls
  · exact print_false r w E
  · exact print_true r w E
end Go.Proofs.YtlgkfnecahgedaaGreatDoor.tok
end

section
/- What is said for a code point, scanned. Plain mathematics. -/
set_option linter.unusedVariables false
set_option linter.unusedSimpArgs false
namespace Go.Proofs.YtlgkfnecahgedaaGreatDoor.tok
open Go.RowKit
open utf (len enc)
open lin (BA Turns)

/-- A string's bytes as numbers. -/
def sg (X : ByteArray) : Nat → Int := fun i => ((X.data.toList.getD i 0).toNat : Int)
theorem sg_in (X : ByteArray) : ∀ i, 0 ≤ sg X i ∧ sg X i ≤ 255 := fun i => by
  unfold sg
  have := UInt8.toNat_lt (X.data.toList.getD i 0)
  omega
theorem conv_sg (w : World) (X : ByteArray) (hX : X.size ≤ 9223372036854775807) : ∃ W cp, (convert 9 22 (.string X)).run Tryz.prog w = .ok (.slice (some ⟨w.heap.size, 0, none⟩) X.size cp) W ∧ utf.IsB W (some ⟨w.heap.size, 0, none⟩) X.size (sg X) ∧ X.size ≤ cp ∧ cp ≤ 9223372036854775807 ∧ Below w.heap.size w W := by
  refine ⟨_, _, Lib.run_convert_string_bytes (P := Tryz.prog) w 9 22 5 X Tryz.underlying9 Tryz.underlying22 Tryz.underlying5, .inr ⟨_, _, rfl, fun i hi => ?_⟩, grownCap_ge w _ _ _, ?_, ⟨rfl, rfl, rfl, by rw [Lib.bytesWorld_size]; omega, fun k hk => Lib.bytesWorld_at_old w _ X k hk⟩⟩
  · rw [Nat.zero_add]; exact Lib.bytesWorld_cell w _ X i hi
  · have := grownCap_le_maxLen w X.size 0 5 (by unfold maxLen; omega)
    unfold maxLen at this
    omega
theorem sg_TX (L : List Int) (hL : ∀ i, 0 ≤ L.getD i 0 ∧ L.getD i 0 ≤ 255) (i : Nat) (hi : i < L.length) : sg (TX L) i = L.getD i 0 := by
  unfold sg TX
  have e : (BA (Lib.bytesOf L)).data.toList = Lib.bytesOf L := rfl
  rw [e]
  have h := hL i
  simp [Lib.bytesOf, hi] at h ⊢
  omega
theorem here_TX (L : List Int) (hL : ∀ i, 0 ≤ L.getD i 0 ∧ L.getD i 0 ≤ 255) : Here (sg (TX L)) L.length 0 L := ⟨by omega, fun i hi => by rw [Nat.zero_add]; exact sg_TX L hL i hi⟩
theorem tok_low {f : Nat → Int} {n a : Nat} (k : Nat) {x : Int} (hx : f a = x) (h0 : 0 ≤ x) (h1 : x ≤ 127) (hl : a < n) (h92 : ¬ x = 92) : token f n a k = if 0 < k then within f n x (a + 1) k else outside f n a x (a + 1) k := by
  unfold token
  rw [point_low h0 h1 hl hx, bind_ok, if_neg h92]
theorem scan_print (r : Int) (hr : len r ≠ 0) : scanL (sg (TX (printL r false))) (printL r false).length = ([⟨1, 0, r, 0, [], false, 0, (printL r false).length⟩], 0, 0) := by
  have hp := print_pos r false hr
  have ht := token_print (sg (TX (printL r false))) (printL r false).length (a := 0) (k := 0) hr (here_TX _ (print_range r false))
  rw [show printL r (decide (0 < 0)) = printL r false from rfl, Nat.zero_add] at ht
  rw [scanL_A _ _ (by omega), scanA_ok _ _ ht (by omega), scanA_end]
  rfl
theorem range_app {L M : List Int} (hL : ∀ i, 0 ≤ L.getD i 0 ∧ L.getD i 0 ≤ 255) (hM : ∀ i, 0 ≤ M.getD i 0 ∧ M.getD i 0 ≤ 255) : ∀ i, 0 ≤ (L ++ M).getD i 0 ∧ (L ++ M).getD i 0 ≤ 255 := by
  intro i
  rcases Nat.lt_or_ge i L.length with h | h
  · have := hL i
    simpa [List.getD, List.getElem?_append_left h] using this
  · have := hM (i - L.length)
    simpa [List.getD, List.getElem?_append_right h] using this
theorem range_1 (x : Int) (h0 : 0 ≤ x) (h1 : x ≤ 255) : ∀ i, 0 ≤ ([x] : List Int).getD i 0 ∧ ([x] : List Int).getD i 0 ≤ 255 := by
  intro i
  cases i with
  | zero => simpa using ⟨h0, h1⟩
  | succ i => simp
theorem scan_class (r : Int) (hr : len r ≠ 0) : scanL (sg (TX ([91, 120] ++ printL r true ++ [93]))) ((printL r true).length + 3) = ([⟨11, 0, 0, 0, [], false, 0, 1⟩, ⟨1, 0, 120, 0, [], false, 1, 2⟩, ⟨1, 0, r, 0, [], false, 2, 2 + (printL r true).length⟩, ⟨12, 0, 0, 0, [], false, 2 + (printL r true).length, (printL r true).length + 3⟩], 0, 0) := by
  have hp := print_pos r true hr
  have hR : ∀ i, 0 ≤ ([91, 120] ++ printL r true ++ [93]).getD i 0 ∧ ([91, 120] ++ printL r true ++ [93]).getD i 0 ≤ 255 :=
    range_app (range_app (range_app (range_1 91 (by decide) (by decide)) (range_1 120 (by decide) (by decide))) (print_range r true)) (range_1 93 (by decide) (by decide))
  have hH := here_TX _ hR
  have hlen : ([91, 120] ++ printL r true ++ [93]).length = (printL r true).length + 3 := by simp
  rw [hlen] at hH
  generalize sg (TX ([91, 120] ++ printL r true ++ [93])) = f at *
  have f0 : f 0 = 91 := by have := hH.2 0 (by simp); simpa using this
  have f1 : f 1 = 120 := by have := hH.2 1 (by simp); simpa using this
  have h3 := hH.right
  have f3 : f (2 + (printL r true).length) = 93 := by
    have := h3.2 0 (by simp)
    have e : 0 + ([91, 120] ++ printL r true).length + 0 = 2 + (printL r true).length := by simp; omega
    rw [e] at this
    simpa using this
  have h2 : Here f ((printL r true).length + 3) 2 (printL r true) := by
    have := (hH.left).right
    simpa using this
  have tk := token_print f ((printL r true).length + 3) (a := 2) (k := 1) hr h2
  rw [show printL r (decide (0 < 1)) = printL r true from rfl] at tk
  have t0 : token f ((printL r true).length + 3) 0 0 = .ok (classT false, 1) 1 := by
    rw [tok_low 0 f0 (by decide) (by decide) (by omega) (by decide), if_neg (by decide)]
    unfold outside
    rw [if_pos rfl]
    unfold class_
    rw [if_neg (by unfold at_; rw [show (0 : Nat) + 1 = 1 from rfl, f1]; simp)]
    rfl
  have t1 : token f ((printL r true).length + 3) 1 1 = .ok (char 120, 1) 2 := by
    rw [tok_low 1 f1 (by decide) (by decide) (by omega) (by decide), if_pos (by decide)]
    unfold within
    simp
  have t3 : token f ((printL r true).length + 3) (2 + (printL r true).length) 1 = .ok (bare 12, 0) ((printL r true).length + 3) := by
    rw [tok_low 1 f3 (by decide) (by decide) (by omega) (by decide), if_pos (by decide)]
    unfold within
    simp
    omega
  rw [scanL_A _ _ (by omega), scanA_ok _ _ t0 (by omega)]
  simp only []
  rw [scanA_ok _ _ t1 (by omega)]
  simp only []
  rw [scanA_ok _ _ tk (by omega)]
  simp only []
  rw [scanA_ok _ _ t3 (by omega)]
  simp only []
  rw [scanA_end]
  rfl
end Go.Proofs.YtlgkfnecahgedaaGreatDoor.tok
end

section
/- TokenBack: the walk. -/
set_option linter.unusedVariables false
set_option linter.unusedSimpArgs false
namespace Go.Proofs.YtlgkfnecahgedaaGreatDoor.tok
open Go.RowKit
open utf (len enc)
open lin (BA Turns)

set_option maxHeartbeats 4000000 in
set_option maxRecDepth 100000 in
theorem back_neg (r : Int) (w : World) (E : PEnv w) (hr : len r = 0) (h1 : r < 0) : Calls Tryz.prog 5 #[.int .i64 r] w fun e w' => e = .returned (.bool true) ∧ Below w.heap.size w w' := by
  have C1 := print_any r false w E
  have HE : Hid (PEnv w) := E
  have HP : Hid (∀ W, PEnv W → Calls Tryz.prog 14 #[.int .i64 r, .bool true] W fun e w' => e = .returned (.string (TX (printL r true))) ∧ Below W.heap.size W w') := fun W h => print_any r true W h
  rw [print_none r false hr] at C1
  rw [print_none r true hr] at HP
  rw [show TX [] = ⟨#[]⟩ from rfl] at C1 HP

  clear E hr
  go_enter Tryz.func5, Tryz.ntmps5
  go_wp2_with fail
  refine C1.mono ?_
  rintro e w1 ⟨rfl, hb1⟩
  clear C1
  have C2 := HP.out w1 (HE.out.below hb1)
  go_wp2_with fail
  refine C2.mono ?_
  rintro e w2 ⟨rfl, hb2⟩
  clear C2
  have b2 := hb1.trans (hb2.mono hb1.size)
  have AW := awake_any w2 (HE.out.below b2).mks
  have HB : Hid (Below w.heap.size w w2) := b2
  clear hb1 hb2 b2 HP
  go_wp2_with fail
  refine AW.mono ?_
  rintro e w' ⟨rfl, hbel⟩
  go_wp2
  go_ret
  exact ⟨rfl, HB.out.trans (hbel.mono HB.out.size)⟩
set_option maxHeartbeats 4000000 in
set_option maxRecDepth 100000 in
theorem back_big (r : Int) (w : World) (E : PEnv w) (hr : len r = 0) (h1 : 1114111 < r) : Calls Tryz.prog 5 #[.int .i64 r] w fun e w' => e = .returned (.bool true) ∧ Below w.heap.size w w' := by
  have C1 := print_any r false w E
  have HE : Hid (PEnv w) := E
  have HP : Hid (∀ W, PEnv W → Calls Tryz.prog 14 #[.int .i64 r, .bool true] W fun e w' => e = .returned (.string (TX (printL r true))) ∧ Below W.heap.size W w') := fun W h => print_any r true W h
  rw [print_none r false hr] at C1
  rw [print_none r true hr] at HP
  rw [show TX [] = ⟨#[]⟩ from rfl] at C1 HP
  have h2 : ¬ r < 0 := by omega
  clear E hr
  go_enter Tryz.func5, Tryz.ntmps5
  go_wp2_with fail
  refine C1.mono ?_
  rintro e w1 ⟨rfl, hb1⟩
  clear C1
  have C2 := HP.out w1 (HE.out.below hb1)
  go_wp2_with fail
  refine C2.mono ?_
  rintro e w2 ⟨rfl, hb2⟩
  clear C2
  have b2 := hb1.trans (hb2.mono hb1.size)
  have AW := awake_any w2 (HE.out.below b2).mks
  have HB : Hid (Below w.heap.size w w2) := b2
  clear hb1 hb2 b2 HP
  go_wp2_with fail
  refine AW.mono ?_
  rintro e w' ⟨rfl, hbel⟩
  go_wp2
  go_ret
  exact ⟨rfl, HB.out.trans (hbel.mono HB.out.size)⟩
set_option maxHeartbeats 4000000 in
set_option maxRecDepth 100000 in
theorem back_sur (r : Int) (w : World) (E : PEnv w) (hr : len r = 0) (h1 : 55296 ≤ r) (h2 : r ≤ 57343) : Calls Tryz.prog 5 #[.int .i64 r] w fun e w' => e = .returned (.bool true) ∧ Below w.heap.size w w' := by
  have C1 := print_any r false w E
  have HE : Hid (PEnv w) := E
  have HP : Hid (∀ W, PEnv W → Calls Tryz.prog 14 #[.int .i64 r, .bool true] W fun e w' => e = .returned (.string (TX (printL r true))) ∧ Below W.heap.size W w') := fun W h => print_any r true W h
  rw [print_none r false hr] at C1
  rw [print_none r true hr] at HP
  rw [show TX [] = ⟨#[]⟩ from rfl] at C1 HP
  have h3 : ¬ r < 0 := by omega
  have h4 : ¬ 1114111 < r := by omega
  clear E hr
  go_enter Tryz.func5, Tryz.ntmps5
  go_wp2_with fail
  refine C1.mono ?_
  rintro e w1 ⟨rfl, hb1⟩
  clear C1
  have C2 := HP.out w1 (HE.out.below hb1)
  go_wp2_with fail
  refine C2.mono ?_
  rintro e w2 ⟨rfl, hb2⟩
  clear C2
  have b2 := hb1.trans (hb2.mono hb1.size)
  have AW := awake_any w2 (HE.out.below b2).mks
  have HB : Hid (Below w.heap.size w w2) := b2
  clear hb1 hb2 b2 HP
  go_wp2_with fail
  refine AW.mono ?_
  rintro e w' ⟨rfl, hbel⟩
  go_wp2
  go_ret
  exact ⟨rfl, HB.out.trans (hbel.mono HB.out.size)⟩
set_option maxHeartbeats 2000000 in
set_option maxRecDepth 100000 in
theorem back_low (r : Int) (w : World) (E : PEnv w) (hr : len r ≠ 0) (h3 : ¬ r < 0) (h4 : ¬ 1114111 < r) (h5 : r < 55296) : Calls Tryz.prog 5 #[.int .i64 r] w fun e w' => e = .returned (.bool true) ∧ Below w.heap.size w w' := by
  have C1 := print_any r false w E
  have HE : Hid (PEnv w) := E
  have HP : Hid (∀ W, PEnv W → Calls Tryz.prog 14 #[.int .i64 r, .bool true] W fun e w' => e = .returned (.string (TX (printL r true))) ∧ Below W.heap.size W w') := fun W h => print_any r true W h
  have d0 : decide (1114111 < r) = false := by simp; omega
  have d9 : decide (55296 ≤ r) = false := by simp; omega
  have d8 : (55296 ≤ r) = False := by simp; omega
  have hp1 := print_pos r false hr
  have hp2 := print_pos r true hr
  have hs1 := scan_print r hr
  have hs2 := scan_class r hr
  have hz1 := TX_size (printL r false)
  have hz2 := TX_size (printL r true)
  have hz3 : TX ([91, 120] ++ printL r true ++ [93]) = ⟨#[91, 120]⟩ ++ TX (printL r true) ++ ⟨#[93]⟩ := by rw [TX_app, TX_app]; rfl
  have hz4 := TX_size ([91, 120] ++ printL r true ++ [93])
  have e9 : (([91, 120] ++ printL r true ++ [93]) : List Int).length = (printL r true).length + 3 := by simp
  rw [e9] at hz4
  clear e9
  obtain ⟨N, hN⟩ : ∃ N, (printL r false).length = N := ⟨_, rfl⟩
  obtain ⟨M, hM⟩ : ∃ M, (printL r true).length = M := ⟨_, rfl⟩
  rw [hN] at hp1 hs1 hz1
  rw [hM] at hp2 hs2 hz2 hz4
  rw [hz3] at hs2 hz4
  obtain ⟨X, hX⟩ : ∃ X, TX (printL r false) = X := ⟨_, rfl⟩
  obtain ⟨Y, hY⟩ : ∃ Y, TX (printL r true) = Y := ⟨_, rfl⟩
  rw [hX] at C1 hs1 hz1
  rw [hY] at HP hs2 hz2 hz4
  clear hz3 hX hY hN hM
  obtain ⟨Y1, hY1⟩ : ∃ Y1, (⟨#[91, 120]⟩ : ByteArray) ++ Y = Y1 := ⟨_, rfl⟩
  have d1 : Y1.size = M + 2 := by rw [← hY1, ByteArray.size_append, hz2]; show 2 + M = _; omega
  rw [hY1] at hs2 hz4
  obtain ⟨Z, hZ⟩ : ∃ Z, Y1 ++ (⟨#[93]⟩ : ByteArray) = Z := ⟨_, rfl⟩
  rw [hZ] at hs2 hz4
  have s1 : ByteArray.size ⟨#[91, 120]⟩ = 2 := rfl
  have s2 : ByteArray.size ⟨#[93]⟩ = 1 := rfl
  obtain ⟨K, hK⟩ : ∃ K, M + 3 = K := ⟨_, rfl⟩
  rw [hK] at hs2 hz4
  have hKb : K ≤ 9 := by omega
  have HSX : Hid (∀ (ao' : Option Addr) (cap' : Nat) W, utf.IsB W ao' N (sg X) → utf.Marks W → N ≤ cap' → cap' ≤ 9223372036854775807 → Calls Tryz.prog 9 #[.slice ao' N cap'] W fun e w' => ∃ tv, e = .returned (.tuple #[tv, .agg #[.int .i64 0, .int .i64 0]]) ∧ w'.ownsRow W.heap.size 32 8 tv ([(⟨1, 0, r, 0, [], false, 0, N⟩ : Tk)]).length (flatT [⟨1, 0, r, 0, [], false, 0, N⟩]) ∧ Below W.heap.size W w') := fun ao' cap' W h1 h2 h3 h4 => by
    have := scan_any ao' N cap' (sg X) W h1 h2 (sg_in X) h3 h4
    rw [hs1] at this
    exact this
  have HSZ : Hid (∀ (ao' : Option Addr) (cap' : Nat) W, utf.IsB W ao' K (sg Z) → utf.Marks W → K ≤ cap' → cap' ≤ 9223372036854775807 → Calls Tryz.prog 9 #[.slice ao' K cap'] W fun e w' => ∃ tv, e = .returned (.tuple #[tv, .agg #[.int .i64 0, .int .i64 0]]) ∧ w'.ownsRow W.heap.size 32 8 tv ([(⟨11, 0, 0, 0, [], false, 0, 1⟩ : Tk), ⟨1, 0, 120, 0, [], false, 1, 2⟩, ⟨1, 0, r, 0, [], false, 2, 2 + M⟩, ⟨12, 0, 0, 0, [], false, 2 + M, K⟩]).length (flatT [⟨11, 0, 0, 0, [], false, 0, 1⟩, ⟨1, 0, 120, 0, [], false, 1, 2⟩, ⟨1, 0, r, 0, [], false, 2, 2 + M⟩, ⟨12, 0, 0, 0, [], false, 2 + M, K⟩]) ∧ Below W.heap.size W w') := fun ao' cap' W h1 h2 h3 h4 => by
    have := scan_any ao' K cap' (sg Z) W h1 h2 (sg_in Z) h3 h4
    rw [hs2] at this
    exact this
  have CVX : Hid (∀ W : World, ∃ W' cp, (convert 9 22 (.string X)).run Tryz.prog W = .ok (.slice (some ⟨W.heap.size, 0, none⟩) N cp) W' ∧ utf.IsB W' (some ⟨W.heap.size, 0, none⟩) N (sg X) ∧ N ≤ cp ∧ cp ≤ 9223372036854775807 ∧ Below W.heap.size W W') := fun W => by have := conv_sg W X (by omega); rw [hz1] at this; exact this
  have CVZ : Hid (∀ W : World, ∃ W' cp, (convert 9 22 (.string Z)).run Tryz.prog W = .ok (.slice (some ⟨W.heap.size, 0, none⟩) K cp) W' ∧ utf.IsB W' (some ⟨W.heap.size, 0, none⟩) K (sg Z) ∧ K ≤ cp ∧ cp ≤ 9223372036854775807 ∧ Below W.heap.size W W') := fun W => by have := conv_sg W Z (by omega); rw [hz4] at this; exact this
  have HY1 : Hid ((⟨#[91, 120]⟩ : ByteArray) ++ Y = Y1) := hY1
  have HZ : Hid (Y1 ++ (⟨#[93]⟩ : ByteArray) = Z) := hZ
  clear E hr hs1 hs2 hK hY1 hZ
  go_enter Tryz.func5, Tryz.ntmps5
  go_wp2_with fail
  refine C1.mono ?_
  rintro e w1 ⟨rfl, hb1⟩
  clear C1
  have C2 := HP.out w1 (HE.out.below hb1)
  go_wp2_with fail
  refine C2.mono ?_
  rintro e w2 ⟨rfl, hb2⟩
  clear C2 HP
  have b2 := hb1.trans (hb2.mono hb1.size)
  obtain ⟨W3, cp3, CV3, IB3, hcp3, hcq3, b3⟩ := CVX.out w2
  have b23 := b2.trans (b3.mono b2.size)
  have C3 := HSX.out _ _ W3 IB3 (HE.out.below b23).mks hcp3 hcq3
  have HB3 : Hid (Below w.heap.size w W3) := b23
  clear hb1 hb2 b2 b3 b23 IB3 HSX CVX
  go_wp2_with fail
  clear CV3
  refine C3.mono ?_
  rintro e w4 ⟨v1, rfl, ho1, hb4⟩
  clear C3
  obtain ⟨ta, tc, rfl, htc, hv⟩ := tok_view ho1
  obtain ⟨g, rfl, -, hgl, hat⟩ := hv (by simp)
  have A0 := hat 0 _ rfl
  obtain ⟨W4, hW4⟩ : ∃ W, w4.alloc (.cells #[.int .i64 0, .int .i64 0] 27) = W := ⟨_, rfl⟩
  have b4 : Below w4.heap.size w4 W4 := by rw [← hW4]; exact (Below.refl _ _).alloc (Nat.le_refl _) _
  have HG4 : Hid (W4.heap[w4.heap.size]? = some (.cells #[.int .i64 0, .int .i64 0] 27 (0, 0))) := by rw [Hid, ← hW4]; exact World.alloc_heap_new _ _
  have HA4 : Hid (TkAt W4 g (0 * 8) ⟨1, 0, r, 0, [], false, 0, N⟩) := A0.below b4
  have bb4 := HB3.out.trans ((hb4.trans (b4.mono hb4.size)).mono HB3.out.size)
  have HW4 : Hid (w4.alloc (.cells #[.int .i64 0, .int .i64 0] 27) = W4) := hW4
  have hs4 : W4.heap.size = w4.heap.size + 1 := by rw [← hW4]; simp
  clear hW4
  obtain ⟨W5, cp5, CV5, IB5, hcp5, hcq5, b5⟩ := CVZ.out W4
  have b45 := bb4.trans (b5.mono bb4.size)
  have C5 := HSZ.out _ _ W5 IB5 (HE.out.below b45).mks hcp5 hcq5
  have HB5 : Hid (Below w.heap.size w W5) := b45
  have HB45 : Hid (Below W4.heap.size W4 W5) := b5
  rw [hs4, ← HW4.out] at CV5
  rw [hs4] at C5
  have hY1 := HY1.out
  have hZ := HZ.out
  clear ho1 hb4 hv hat A0 b4 bb4 b5 b45 IB5 HSZ CVZ htc hcp3 hcq3 HB3
  go_wp2_with fail
  clear CV5 hY1 hZ
  refine C5.mono ?_
  rintro e w6 ⟨v2, rfl, ho2, hb6⟩
  clear C5
  obtain ⟨ta2, tc2, rfl, htc2, hv2⟩ := tok_view ho2
  obtain ⟨g2, rfl, -, hgl2, hat2⟩ := hv2 (by simp)
  have b46 : Below W4.heap.size W4 w6 := HB45.out.trans (hb6.mono HB45.out.size)
  have G4 := (b46.block _ (Array.getElem?_eq_some_iff.1 HG4.out).1).trans HG4.out
  obtain ⟨x0', x1', -, -⟩ := nam.blk2 G4
  have hl4 : w4.heap.size < w6.heap.size := (Array.getElem?_eq_some_iff.1 G4).1
  have x0 : ∀ o, (w6.alloc o).cell? ⟨w4.heap.size, 0, none⟩ = some (.int .i64 0) := fun o => (World.cell?_alloc_past _ _ _ hl4).trans x0'
  have hn4 : ¬ w4.heap.size = w6.heap.size := by omega
  have A1 := HA4.out.below b46
  have M2 := hat2 2 _ rfl
  have M3 := hat2 3 _ rfl
  have hg6 : g < w6.heap.size := World.block_lt_of_cell? _ _ A1.c0
  have hn1 : ¬ g = w6.heap.size := by omega
  have hn2 : ¬ g2 = w6.heap.size := by omega
  have m20 := fun o => (M2.alloc o).c0
  have m22 := fun o => (M2.alloc o).c2
  have m30 := fun o => (M3.alloc o).c0
  have p0 := fun o => (A1.alloc o).c0
  have p1 := fun o => (A1.alloc o).c1
  have p2 := fun o => (A1.alloc o).c2
  have p3 := fun o => (A1.alloc o).c3
  have p4x := fun o => (A1.alloc o).c4
  have p5 := fun o => (A1.alloc o).c5
  have p6 := fun o => (A1.alloc o).c6
  have p7 := fun o => (A1.alloc o).c7
  have p4 : ∀ o, (w6.alloc o).cell? ⟨g, 0 * 8 + 4, none⟩ = some (.string ⟨#[]⟩) := p4x
  clear p4x
  simp only [Nat.zero_mul, Nat.zero_add, Nat.reduceMul, Nat.reduceAdd] at p0 p1 p2 p3 p4 p5 p6 p7 m20 m22 m30
  have HB6 : Hid (Below w.heap.size w (w6.alloc (.cells #[.int .i64 0, .int .i64 0] 27))) := (HB5.out.trans (hb6.mono HB5.out.size)).alloc (Nat.le_trans HB5.out.size hb6.size) _
  clear ho2 hb6 hv2 hat2 b46 G4 A1 M2 M3 HA4 HG4 HB5 HB45 htc2 hcp5 hcq5 x0' x1'
  go_wp2
  go_ret
  exact ⟨rfl, HB6.out⟩
set_option maxHeartbeats 2000000 in
set_option maxRecDepth 100000 in
theorem back_high (r : Int) (w : World) (E : PEnv w) (hr : len r ≠ 0) (h3 : ¬ r < 0) (h4 : ¬ 1114111 < r) (h5 : 57343 < r) : Calls Tryz.prog 5 #[.int .i64 r] w fun e w' => e = .returned (.bool true) ∧ Below w.heap.size w w' := by
  have C1 := print_any r false w E
  have HE : Hid (PEnv w) := E
  have HP : Hid (∀ W, PEnv W → Calls Tryz.prog 14 #[.int .i64 r, .bool true] W fun e w' => e = .returned (.string (TX (printL r true))) ∧ Below W.heap.size W w') := fun W h => print_any r true W h
  have d0 : decide (1114111 < r) = false := by simp; omega
  have d9 : decide (55296 ≤ r) = true := by simp; omega
  have d8 : decide (r ≤ 57343) = false := by simp; omega
  have d7 : (r ≤ 57343) = False := by simp; omega
  have d6 : 55296 ≤ r := by omega
  have hp1 := print_pos r false hr
  have hp2 := print_pos r true hr
  have hs1 := scan_print r hr
  have hs2 := scan_class r hr
  have hz1 := TX_size (printL r false)
  have hz2 := TX_size (printL r true)
  have hz3 : TX ([91, 120] ++ printL r true ++ [93]) = ⟨#[91, 120]⟩ ++ TX (printL r true) ++ ⟨#[93]⟩ := by rw [TX_app, TX_app]; rfl
  have hz4 := TX_size ([91, 120] ++ printL r true ++ [93])
  have e9 : (([91, 120] ++ printL r true ++ [93]) : List Int).length = (printL r true).length + 3 := by simp
  rw [e9] at hz4
  clear e9
  obtain ⟨N, hN⟩ : ∃ N, (printL r false).length = N := ⟨_, rfl⟩
  obtain ⟨M, hM⟩ : ∃ M, (printL r true).length = M := ⟨_, rfl⟩
  rw [hN] at hp1 hs1 hz1
  rw [hM] at hp2 hs2 hz2 hz4
  rw [hz3] at hs2 hz4
  obtain ⟨X, hX⟩ : ∃ X, TX (printL r false) = X := ⟨_, rfl⟩
  obtain ⟨Y, hY⟩ : ∃ Y, TX (printL r true) = Y := ⟨_, rfl⟩
  rw [hX] at C1 hs1 hz1
  rw [hY] at HP hs2 hz2 hz4
  clear hz3 hX hY hN hM
  obtain ⟨Y1, hY1⟩ : ∃ Y1, (⟨#[91, 120]⟩ : ByteArray) ++ Y = Y1 := ⟨_, rfl⟩
  have d1 : Y1.size = M + 2 := by rw [← hY1, ByteArray.size_append, hz2]; show 2 + M = _; omega
  rw [hY1] at hs2 hz4
  obtain ⟨Z, hZ⟩ : ∃ Z, Y1 ++ (⟨#[93]⟩ : ByteArray) = Z := ⟨_, rfl⟩
  rw [hZ] at hs2 hz4
  have s1 : ByteArray.size ⟨#[91, 120]⟩ = 2 := rfl
  have s2 : ByteArray.size ⟨#[93]⟩ = 1 := rfl
  obtain ⟨K, hK⟩ : ∃ K, M + 3 = K := ⟨_, rfl⟩
  rw [hK] at hs2 hz4
  have hKb : K ≤ 9 := by omega
  have HSX : Hid (∀ (ao' : Option Addr) (cap' : Nat) W, utf.IsB W ao' N (sg X) → utf.Marks W → N ≤ cap' → cap' ≤ 9223372036854775807 → Calls Tryz.prog 9 #[.slice ao' N cap'] W fun e w' => ∃ tv, e = .returned (.tuple #[tv, .agg #[.int .i64 0, .int .i64 0]]) ∧ w'.ownsRow W.heap.size 32 8 tv ([(⟨1, 0, r, 0, [], false, 0, N⟩ : Tk)]).length (flatT [⟨1, 0, r, 0, [], false, 0, N⟩]) ∧ Below W.heap.size W w') := fun ao' cap' W h1 h2 h3 h4 => by
    have := scan_any ao' N cap' (sg X) W h1 h2 (sg_in X) h3 h4
    rw [hs1] at this
    exact this
  have HSZ : Hid (∀ (ao' : Option Addr) (cap' : Nat) W, utf.IsB W ao' K (sg Z) → utf.Marks W → K ≤ cap' → cap' ≤ 9223372036854775807 → Calls Tryz.prog 9 #[.slice ao' K cap'] W fun e w' => ∃ tv, e = .returned (.tuple #[tv, .agg #[.int .i64 0, .int .i64 0]]) ∧ w'.ownsRow W.heap.size 32 8 tv ([(⟨11, 0, 0, 0, [], false, 0, 1⟩ : Tk), ⟨1, 0, 120, 0, [], false, 1, 2⟩, ⟨1, 0, r, 0, [], false, 2, 2 + M⟩, ⟨12, 0, 0, 0, [], false, 2 + M, K⟩]).length (flatT [⟨11, 0, 0, 0, [], false, 0, 1⟩, ⟨1, 0, 120, 0, [], false, 1, 2⟩, ⟨1, 0, r, 0, [], false, 2, 2 + M⟩, ⟨12, 0, 0, 0, [], false, 2 + M, K⟩]) ∧ Below W.heap.size W w') := fun ao' cap' W h1 h2 h3 h4 => by
    have := scan_any ao' K cap' (sg Z) W h1 h2 (sg_in Z) h3 h4
    rw [hs2] at this
    exact this
  have CVX : Hid (∀ W : World, ∃ W' cp, (convert 9 22 (.string X)).run Tryz.prog W = .ok (.slice (some ⟨W.heap.size, 0, none⟩) N cp) W' ∧ utf.IsB W' (some ⟨W.heap.size, 0, none⟩) N (sg X) ∧ N ≤ cp ∧ cp ≤ 9223372036854775807 ∧ Below W.heap.size W W') := fun W => by have := conv_sg W X (by omega); rw [hz1] at this; exact this
  have CVZ : Hid (∀ W : World, ∃ W' cp, (convert 9 22 (.string Z)).run Tryz.prog W = .ok (.slice (some ⟨W.heap.size, 0, none⟩) K cp) W' ∧ utf.IsB W' (some ⟨W.heap.size, 0, none⟩) K (sg Z) ∧ K ≤ cp ∧ cp ≤ 9223372036854775807 ∧ Below W.heap.size W W') := fun W => by have := conv_sg W Z (by omega); rw [hz4] at this; exact this
  have HY1 : Hid ((⟨#[91, 120]⟩ : ByteArray) ++ Y = Y1) := hY1
  have HZ : Hid (Y1 ++ (⟨#[93]⟩ : ByteArray) = Z) := hZ
  clear E hr hs1 hs2 hK hY1 hZ
  go_enter Tryz.func5, Tryz.ntmps5
  go_wp2_with fail
  refine C1.mono ?_
  rintro e w1 ⟨rfl, hb1⟩
  clear C1
  have C2 := HP.out w1 (HE.out.below hb1)
  go_wp2_with fail
  refine C2.mono ?_
  rintro e w2 ⟨rfl, hb2⟩
  clear C2 HP
  have b2 := hb1.trans (hb2.mono hb1.size)
  obtain ⟨W3, cp3, CV3, IB3, hcp3, hcq3, b3⟩ := CVX.out w2
  have b23 := b2.trans (b3.mono b2.size)
  have C3 := HSX.out _ _ W3 IB3 (HE.out.below b23).mks hcp3 hcq3
  have HB3 : Hid (Below w.heap.size w W3) := b23
  clear hb1 hb2 b2 b3 b23 IB3 HSX CVX
  go_wp2_with fail
  clear CV3
  refine C3.mono ?_
  rintro e w4 ⟨v1, rfl, ho1, hb4⟩
  clear C3
  obtain ⟨ta, tc, rfl, htc, hv⟩ := tok_view ho1
  obtain ⟨g, rfl, -, hgl, hat⟩ := hv (by simp)
  have A0 := hat 0 _ rfl
  obtain ⟨W4, hW4⟩ : ∃ W, w4.alloc (.cells #[.int .i64 0, .int .i64 0] 27) = W := ⟨_, rfl⟩
  have b4 : Below w4.heap.size w4 W4 := by rw [← hW4]; exact (Below.refl _ _).alloc (Nat.le_refl _) _
  have HG4 : Hid (W4.heap[w4.heap.size]? = some (.cells #[.int .i64 0, .int .i64 0] 27 (0, 0))) := by rw [Hid, ← hW4]; exact World.alloc_heap_new _ _
  have HA4 : Hid (TkAt W4 g (0 * 8) ⟨1, 0, r, 0, [], false, 0, N⟩) := A0.below b4
  have bb4 := HB3.out.trans ((hb4.trans (b4.mono hb4.size)).mono HB3.out.size)
  have HW4 : Hid (w4.alloc (.cells #[.int .i64 0, .int .i64 0] 27) = W4) := hW4
  have hs4 : W4.heap.size = w4.heap.size + 1 := by rw [← hW4]; simp
  clear hW4
  obtain ⟨W5, cp5, CV5, IB5, hcp5, hcq5, b5⟩ := CVZ.out W4
  have b45 := bb4.trans (b5.mono bb4.size)
  have C5 := HSZ.out _ _ W5 IB5 (HE.out.below b45).mks hcp5 hcq5
  have HB5 : Hid (Below w.heap.size w W5) := b45
  have HB45 : Hid (Below W4.heap.size W4 W5) := b5
  rw [hs4, ← HW4.out] at CV5
  rw [hs4] at C5
  have hY1 := HY1.out
  have hZ := HZ.out
  clear ho1 hb4 hv hat A0 b4 bb4 b5 b45 IB5 HSZ CVZ htc hcp3 hcq3 HB3
  go_wp2_with fail
  clear CV5 hY1 hZ
  refine C5.mono ?_
  rintro e w6 ⟨v2, rfl, ho2, hb6⟩
  clear C5
  obtain ⟨ta2, tc2, rfl, htc2, hv2⟩ := tok_view ho2
  obtain ⟨g2, rfl, -, hgl2, hat2⟩ := hv2 (by simp)
  have b46 : Below W4.heap.size W4 w6 := HB45.out.trans (hb6.mono HB45.out.size)
  have G4 := (b46.block _ (Array.getElem?_eq_some_iff.1 HG4.out).1).trans HG4.out
  obtain ⟨x0', x1', -, -⟩ := nam.blk2 G4
  have hl4 : w4.heap.size < w6.heap.size := (Array.getElem?_eq_some_iff.1 G4).1
  have x0 : ∀ o, (w6.alloc o).cell? ⟨w4.heap.size, 0, none⟩ = some (.int .i64 0) := fun o => (World.cell?_alloc_past _ _ _ hl4).trans x0'
  have hn4 : ¬ w4.heap.size = w6.heap.size := by omega
  have A1 := HA4.out.below b46
  have M2 := hat2 2 _ rfl
  have M3 := hat2 3 _ rfl
  have hg6 : g < w6.heap.size := World.block_lt_of_cell? _ _ A1.c0
  have hn1 : ¬ g = w6.heap.size := by omega
  have hn2 : ¬ g2 = w6.heap.size := by omega
  have m20 := fun o => (M2.alloc o).c0
  have m22 := fun o => (M2.alloc o).c2
  have m30 := fun o => (M3.alloc o).c0
  have p0 := fun o => (A1.alloc o).c0
  have p1 := fun o => (A1.alloc o).c1
  have p2 := fun o => (A1.alloc o).c2
  have p3 := fun o => (A1.alloc o).c3
  have p4x := fun o => (A1.alloc o).c4
  have p5 := fun o => (A1.alloc o).c5
  have p6 := fun o => (A1.alloc o).c6
  have p7 := fun o => (A1.alloc o).c7
  have p4 : ∀ o, (w6.alloc o).cell? ⟨g, 0 * 8 + 4, none⟩ = some (.string ⟨#[]⟩) := p4x
  clear p4x
  simp only [Nat.zero_mul, Nat.zero_add, Nat.reduceMul, Nat.reduceAdd] at p0 p1 p2 p3 p4 p5 p6 p7 m20 m22 m30
  have HB6 : Hid (Below w.heap.size w (w6.alloc (.cells #[.int .i64 0, .int .i64 0] 27))) := (HB5.out.trans (hb6.mono HB5.out.size)).alloc (Nat.le_trans HB5.out.size hb6.size) _
  clear ho2 hb6 hv2 hat2 b46 G4 A1 M2 M3 HA4 HG4 HB5 HB45 htc2 hcp5 hcq5 x0' x1'
  go_wp2
  go_ret
  exact ⟨rfl, HB6.out⟩
theorem back_w (r : Int) (w : World) (E : PEnv w) : Calls Tryz.prog 5 #[.int .i64 r] w fun e w' => e = .returned (.bool true) ∧ Below w.heap.size w w' := by
  by_cases hr : len r = 0
  · have hc : r < 0 ∨ 1114111 < r ∨ (55296 ≤ r ∧ r ≤ 57343) := by have h := hr; unfold len at h; revert h; (repeat' split) <;> omega
    rcases hc with h | h | ⟨h1, h2⟩
    · exact back_neg r w E hr h
    · exact back_big r w E hr h
    · exact back_sur r w E hr h1 h2
  · obtain ⟨r0, r1, r2, -⟩ := utf.len_cases r hr
    by_cases h : r < 55296
    · exact back_low r w E hr (by omega) (by omega) h
    · exact back_high r w E hr (by omega) (by omega) (by omega)
end Go.Proofs.YtlgkfnecahgedaaGreatDoor.tok
end
