/- Texts that the proof leans on, one behind the other. -/
import Derived.Test.YtlgkfnecahgedabGreatDoorBdTok5
import Derived.Test.YtlgkfnecahgedabGreatDoorBdTok8
import Derived.Test.YtlgkfnecahgedabGreatDoorBdLin3
import Derived.Test.YtlgkfnecahgedabGreatDoorBdUpS1
import Derived.Test.YtlgkfnecahgedabGreatDoorBdLin1
import Derived.Test.YtlgkfnecahgedabGreatDoorBdUtf1
import Derived.Test.YtlgkfnecahgedabGreatDoorBdTok4
import Derived.ProofKit
import Derived.OpenShut
import Derived.Deep.DeepHandedRow
import Derived.ChangeMaps5
import Derived.Deep.Strs
import Derived.Test.YtlgkfnecahgedabGreatDoorBdUtf2
import Derived.Lib.AppendStr

section
/- token.Print: what a pattern says for a code point. -/
set_option linter.unusedVariables false
set_option linter.unusedSimpArgs false
namespace Go.Proofs.YtlgkfnecahgedabGreatDoor.tok
open Go.RowKit
open utf (len enc)
open lin (BA Turns)

/-- The variables that Print reads. -/
structure PEnv (w : World) : Prop where
  mks : utf.Marks w
  bj : w.cell? ⟨7, 15, none⟩ = some (.int .u8 4)
  ml : ∃ m, w.cell? ⟨3, 0, none⟩ = some (.int .i64 m)
theorem PEnv.below {w w' : World} (h : PEnv w) (hb : Below w.heap.size w w') : PEnv w' := by
  obtain ⟨m, hm⟩ := h.ml
  exact ⟨h.mks.below hb, (hb.cell (World.block_lt_of_cell? w _ h.bj)).trans h.bj, m, (hb.cell (World.block_lt_of_cell? w _ hm)).trans hm⟩
/-- Numbers as a text. -/
def TX (L : List Int) : ByteArray := BA (Lib.bytesOf L)
theorem TX_num (L : List Int) : strOfNums L = TX L := rfl
theorem upper_low : ∀ n : Fin 128, ((lin.lowL n.val).map Lib.upperB) = Lib.bytesOf (hexU (n.val : Int)) := by decide +kernel
theorem low_asc : ∀ n : Fin 128, ∀ x ∈ lin.lowL n.val, x.toNat < 128 := by decide +kernel
theorem has_mark : ∀ n : Fin 128, ∀ c : Bool, Lib.contains (if c = true then [91, 93, 94, 45, 38, 126, 92] else [46, 91, 40, 41, 124, 42, 43, 63, 123, 94, 36, 92]) (Lib.bytesOf [(n.val : Int)]) = decide ((n.val : Int) ∈ (if c = true then marksC else marksO)) := by decide +kernel
theorem nowhere (x : UInt8) (rest : List UInt8) : ∀ s : List UInt8, (∀ b ∈ s, b ≠ x) → Lib.index s (x :: rest) = -1
  | [], _ => by simp [Lib.index]
  | b :: l, h => by
    have h1 := nowhere x rest l (fun c hc => h c (List.mem_cons_of_mem _ hc))
    have h2 : x ≠ b := fun e => h b (List.mem_cons_self ..) e.symm
    unfold Lib.index
    rw [h1]
    simp [List.isPrefixOf, h2]
theorem enc_high (r : Int) (hr : len r ≠ 0) (h : 128 ≤ r) : ∃ x rest, enc r = x :: rest ∧ 192 ≤ x ∧ x ≤ 255 := by
  obtain ⟨r0, r1, r2, c | c | c | c⟩ := utf.len_cases r hr
  · omega
  · exact ⟨_, _, utf.enc_of_2 r c.1, by omega, by omega⟩
  · exact ⟨_, _, utf.enc_of_3 r c.1, by omega, by omega⟩
  · exact ⟨_, _, utf.enc_of_4 r c.1, by omega, by omega⟩
theorem has_print (r : Int) (cls : Bool) (hr : len r ≠ 0) : Lib.contains (if cls = true then [91, 93, 94, 45, 38, 126, 92] else [46, 91, 40, 41, 124, 42, 43, 63, 123, 94, 36, 92]) (Lib.bytesOf (enc r)) = decide (r ∈ (if cls = true then marksC else marksO)) := by
  obtain ⟨r0, r1, -⟩ := utf.len_cases r hr
  by_cases h : r ≤ 127
  · rw [enc_low r r0 h]
    have := has_mark ⟨r.toNat, by omega⟩ cls
    rw [show ((⟨r.toNat, by omega⟩ : Fin 128).val : Int) = r by simp; omega] at this
    exact this
  · obtain ⟨x, rest, e, h1, h2⟩ := enc_high r hr (by omega)
    have hn : ¬ r ∈ (if cls = true then marksC else marksO) := fun hh => by have := marks_low r cls hh; omega
    rw [decide_eq_false hn, e]
    unfold Lib.contains
    have hx : (UInt8.ofNat x.toNat).toNat = x.toNat := by rw [UInt8.toNat_ofNat']; omega
    have hb : Lib.bytesOf (x :: rest) = UInt8.ofNat x.toNat :: Lib.bytesOf rest := by simp [Lib.bytesOf]
    rw [hb, nowhere]
    · decide
    · intro b hb2 e2
      have hb3 : b.toNat ≤ 126 := by
        revert hb2
        cases cls
        · simp only [Bool.false_eq_true, if_false, List.mem_cons, List.not_mem_nil, or_false]
          intro hb2
          rcases hb2 with rfl | rfl | rfl | rfl | rfl | rfl | rfl | rfl | rfl | rfl | rfl | rfl <;> decide
        · simp only [if_true, List.mem_cons, List.not_mem_nil, or_false]
          intro hb2
          rcases hb2 with rfl | rfl | rfl | rfl | rfl | rfl | rfl <;> decide
      rw [e2, hx] at hb3
      omega
theorem TX_size (L : List Int) : (TX L).size = L.length := by unfold TX; rw [lin.BA_size]; simp [Lib.bytesOf]
theorem TX_app (L M : List Int) : TX (L ++ M) = TX L ++ TX M := by
  unfold TX
  rw [show Lib.bytesOf (L ++ M) = Lib.bytesOf L ++ Lib.bytesOf M by simp [Lib.bytesOf]]
  exact (nam.BA_app _ _).symm
theorem enc_text (r : Int) (w : World) : (convert 23 9 (.slice (some ⟨w.heap.size, 0, none⟩) (enc r).length (enc r).length)).run Tryz.prog (w.alloc (utf.encBlock r)) = .ok (.string (TX (enc r))) (w.alloc (utf.encBlock r)) :=
  utf.bts_block (xs := enc r) (enc r).length (World.alloc_heap_new w (utf.encBlock r))
set_option maxHeartbeats 4000000 in
set_option maxRecDepth 100000 in
theorem print_false (r : Int) (w : World) (E : PEnv w) : Calls Tryz.prog 5 #[.int .i64 r, .bool false] w fun e w' => e = .returned (.string (TX (printL r false))) ∧ Below w.heap.size w w' := by
  by_cases hr : len r = 0
  · rw [print_none r false hr]
    have C := utf.enc_no r w hr
    clear E hr
    go_enter Tryz.func5, Tryz.ntmps5
    go_wp2_with fail
    refine C.mono ?_
    rintro e w1 ⟨rfl, rfl⟩
    go_wp2
    go_ret
    exact ⟨rfl, Below.refl _ _⟩
  · have C := utf.enc_yes r w hr E.mks
    have CV := enc_text r w
    have hp := utf.enc_pos r hr
    obtain ⟨r0, r1, -⟩ := utf.len_cases r hr
    obtain ⟨W, hW⟩ : ∃ W, w.alloc (utf.encBlock r) = W := ⟨_, rfl⟩
    have bW : Below w.heap.size w W := by rw [← hW]; exact (Below.refl _ _).alloc (Nat.le_refl _) _
    rw [hW] at C CV
    have HB : Hid (Below w.heap.size w W) := bW
    have EW := E.below bW
    have hbl := World.block_lt_of_cell? W _ EW.bj
    simp only [] at hbl
    obtain ⟨m, hm⟩ := EW.ml
    have HC : Hid (Lib.contains [46, 91, 40, 41, 124, 42, 43, 63, 123, 94, 36, 92] (Lib.bytesOf (enc r)) = decide (r ∈ marksO)) := has_print r false hr
    have hs := TX_size (enc r)
    have HPL : Hid (printL r false = if r < 32 ∨ r = 127 then [92, 120, 123] ++ hexU r ++ [125] else if r ∈ marksO then 92 :: enc r else enc r) := by unfold Hid printL; rw [if_neg hr]; rfl
    have HX1 : Hid (TX (92 :: enc r) = ⟨#[92]⟩ ++ TX (enc r)) := TX_app [92] (enc r)
    have HCT : Hid (∀ W, W.cell? ⟨3, 0, none⟩ = some (.int .i64 m) → Calls Tryz.prog 12 #[.string ⟨#[46, 91, 40, 41, 124, 42, 43, 63, 123, 94, 36, 92]⟩, .string (TX (enc r))] W fun e w' => e = .returned (.bool (decide (r ∈ marksO))) ∧ w' = W) := fun W h => by
      have := Tryz.strings_Contains ⟨#[46, 91, 40, 41, 124, 42, 43, 63, 123, 94, 36, 92]⟩ (TX (enc r)) m W (by decide) h
      rw [show Lib.contains (⟨#[46, 91, 40, 41, 124, 42, 43, 63, 123, 94, 36, 92]⟩ : ByteArray).data.toList (TX (enc r)).data.toList = decide (r ∈ marksO) from HC.out] at this
      exact this
    obtain ⟨X, hX⟩ : ∃ X, TX (enc r) = X := ⟨_, rfl⟩
    rw [hX] at CV hs HX1 HCT
    have HXE : Hid (TX (enc r) = X) := hX
    clear hX
    obtain ⟨K, hK⟩ : ∃ K, (enc r).length = K := ⟨_, rfl⟩
    rw [hK] at C CV hs hp
    by_cases hc : r < 32 ∨ r = 127
    · have HP2 : Hid (printL r false = [92, 120, 123] ++ hexU r ++ [125]) := by unfold Hid; rw [HPL.out, if_pos hc]
      obtain ⟨n, rfl⟩ : ∃ n : Nat, r = n := ⟨r.toNat, by omega⟩
      have hn : n < 128 := by omega
      have FM := lin.fmt_any n W (by omega) EW.bj hbl
      have hup := upper_low ⟨n, hn⟩
      have hll := lin.lowL_len 1 n (by omega)
      have UP : ∀ W, Calls Tryz.prog 10 #[.string (BA (lin.lowL n))] W fun e w' => e = .returned (.string (TX (hexU (n : Int)))) ∧ Below W.heap.size W w' := fun W => by
        have := Tryz.strings_ToUpper_ascii (BA (lin.lowL n)) W (by rw [lin.BA_size]; omega) (fun j b hb => low_asc ⟨n, hn⟩ b (List.mem_of_getElem? hb))
        rw [show (⟨(Lib.toUpperA (BA (lin.lowL n)).data.toList).toArray⟩ : ByteArray) = TX (hexU (n : Int)) from by unfold TX; rw [← hup]; rfl] at this
        exact this
      have HT : Hid (TX (printL (n : Int) false) = ⟨#[92, 120, 123]⟩ ++ TX (hexU (n : Int)) ++ ⟨#[125]⟩) := by unfold Hid; rw [HP2.out, TX_app, TX_app]; rfl
      have hhs : (TX (hexU (n : Int))).size ≤ 2 := by rw [TX_size]; unfold hexU; split <;> simp
      have s1 : ByteArray.size ⟨#[92, 120, 123]⟩ = 3 := rfl
      have s2 : ByteArray.size ⟨#[125]⟩ = 1 := rfl
      rw [HT.out]
      obtain ⟨Q, hQ⟩ : ∃ Q, printL (n : Int) false = Q := ⟨_, rfl⟩
      clear hQ Q HT HP2 HPL HC HCT HX1 hup E EW
      generalize TX (hexU (n : Int)) = H at *
      have d1 : ((⟨#[92, 120, 123]⟩ : ByteArray) ++ H).size ≤ 5 := by rw [ByteArray.size_append]; show 3 + H.size ≤ 5; omega
      generalize BA (lin.lowL n) = LL at *
      rcases (show n < 32 ∨ n = 127 from by omega) with h32 | h127
      · have c1 : (n : Int) < 32 := by omega
        clear hc
        go_enter Tryz.func5, Tryz.ntmps5
        go_wp2_with fail
        refine C.mono ?_
        rintro e w1 ⟨rfl, rfl⟩
        clear C
        go_wp2_with fail
        refine FM.mono ?_
        rintro e w2 ⟨rfl, hb2⟩
        go_wp2_with fail
        refine (UP _).mono ?_
        rintro e w3 ⟨rfl, hb3⟩
        generalize (⟨#[92, 120, 123]⟩ : ByteArray) ++ H = Y at *
        go_wp2
        go_ret
        exact ⟨rfl, (HB.out.trans (hb2.mono HB.out.size)).trans (hb3.mono (Nat.le_trans HB.out.size hb2.size))⟩
      · subst h127
        clear hc
        go_enter Tryz.func5, Tryz.ntmps5
        go_wp2_with fail
        refine C.mono ?_
        rintro e w1 ⟨rfl, rfl⟩
        clear C
        go_wp2_with fail
        refine FM.mono ?_
        rintro e w2 ⟨rfl, hb2⟩
        go_wp2_with fail
        refine (UP _).mono ?_
        rintro e w3 ⟨rfl, hb3⟩
        generalize (⟨#[92, 120, 123]⟩ : ByteArray) ++ H = Y at *
        go_wp2
        go_ret
        exact ⟨rfl, (HB.out.trans (hb2.mono HB.out.size)).trans (hb3.mono (Nat.le_trans HB.out.size hb2.size))⟩
    · have HP2 : Hid (printL r false = if r ∈ marksO then 92 :: enc r else enc r) := by unfold Hid; rw [HPL.out, if_neg hc]
      have CT := HCT.out W hm
      have c1 : ¬ r < 32 := by omega
      have c2 : ¬ r = 127 := by omega
      have c3 : (r == 127) = false := by simp [c2]
      have s1 : ByteArray.size ⟨#[92]⟩ = 1 := rfl
      by_cases hmk : r ∈ marksO
      · have HT : Hid (TX (printL r false) = ⟨#[92]⟩ ++ X) := by unfold Hid; rw [HP2.out, if_pos hmk]; exact HX1.out
        rw [HT.out]
        rw [decide_eq_true hmk] at CT
        clear HT HP2 HPL HC HCT HX1 E EW hc hmk
        go_enter Tryz.func5, Tryz.ntmps5
        go_wp2_with fail
        refine C.mono ?_
        rintro e w1 ⟨rfl, rfl⟩
        clear C
        go_wp2_with fail
        refine CT.mono ?_
        rintro e w2 ⟨rfl, rfl⟩
        go_wp2
        go_ret
        exact ⟨rfl, HB.out⟩
      · have HT : Hid (TX (printL r false) = X) := by unfold Hid; rw [HP2.out, if_neg hmk]; exact HXE.out
        rw [HT.out]
        rw [decide_eq_false hmk] at CT
        clear HT HP2 HPL HC HCT HX1 E EW hc hmk HXE
        go_enter Tryz.func5, Tryz.ntmps5
        go_wp2_with fail
        refine C.mono ?_
        rintro e w1 ⟨rfl, rfl⟩
        clear C
        go_wp2_with fail
        refine CT.mono ?_
        rintro e w2 ⟨rfl, rfl⟩
        go_wp2
        go_ret
        exact ⟨rfl, HB.out⟩
set_option maxHeartbeats 4000000 in
set_option maxRecDepth 100000 in
theorem print_true (r : Int) (w : World) (E : PEnv w) : Calls Tryz.prog 5 #[.int .i64 r, .bool true] w fun e w' => e = .returned (.string (TX (printL r true))) ∧ Below w.heap.size w w' := by
  by_cases hr : len r = 0
  · rw [print_none r true hr]
    have C := utf.enc_no r w hr
    clear E hr
    go_enter Tryz.func5, Tryz.ntmps5
    go_wp2_with fail
    refine C.mono ?_
    rintro e w1 ⟨rfl, rfl⟩
    go_wp2
    go_ret
    exact ⟨rfl, Below.refl _ _⟩
  · have C := utf.enc_yes r w hr E.mks
    have CV := enc_text r w
    have hp := utf.enc_pos r hr
    obtain ⟨r0, r1, -⟩ := utf.len_cases r hr
    obtain ⟨W, hW⟩ : ∃ W, w.alloc (utf.encBlock r) = W := ⟨_, rfl⟩
    have bW : Below w.heap.size w W := by rw [← hW]; exact (Below.refl _ _).alloc (Nat.le_refl _) _
    rw [hW] at C CV
    have HB : Hid (Below w.heap.size w W) := bW
    have EW := E.below bW
    have hbl := World.block_lt_of_cell? W _ EW.bj
    simp only [] at hbl
    obtain ⟨m, hm⟩ := EW.ml
    have HC : Hid (Lib.contains [91, 93, 94, 45, 38, 126, 92] (Lib.bytesOf (enc r)) = decide (r ∈ marksC)) := has_print r true hr
    have hs := TX_size (enc r)
    have HPL : Hid (printL r true = if r < 32 ∨ r = 127 then [92, 120, 123] ++ hexU r ++ [125] else if r ∈ marksC then 92 :: enc r else enc r) := by unfold Hid printL; rw [if_neg hr]; rfl
    have HX1 : Hid (TX (92 :: enc r) = ⟨#[92]⟩ ++ TX (enc r)) := TX_app [92] (enc r)
    have HCT : Hid (∀ W, W.cell? ⟨3, 0, none⟩ = some (.int .i64 m) → Calls Tryz.prog 12 #[.string ⟨#[91, 93, 94, 45, 38, 126, 92]⟩, .string (TX (enc r))] W fun e w' => e = .returned (.bool (decide (r ∈ marksC))) ∧ w' = W) := fun W h => by
      have := Tryz.strings_Contains ⟨#[91, 93, 94, 45, 38, 126, 92]⟩ (TX (enc r)) m W (by decide) h
      rw [show Lib.contains (⟨#[91, 93, 94, 45, 38, 126, 92]⟩ : ByteArray).data.toList (TX (enc r)).data.toList = decide (r ∈ marksC) from HC.out] at this
      exact this
    obtain ⟨X, hX⟩ : ∃ X, TX (enc r) = X := ⟨_, rfl⟩
    rw [hX] at CV hs HX1 HCT
    have HXE : Hid (TX (enc r) = X) := hX
    clear hX
    obtain ⟨K, hK⟩ : ∃ K, (enc r).length = K := ⟨_, rfl⟩
    rw [hK] at C CV hs hp
    by_cases hc : r < 32 ∨ r = 127
    · have HP2 : Hid (printL r true = [92, 120, 123] ++ hexU r ++ [125]) := by unfold Hid; rw [HPL.out, if_pos hc]
      obtain ⟨n, rfl⟩ : ∃ n : Nat, r = n := ⟨r.toNat, by omega⟩
      have hn : n < 128 := by omega
      have FM := lin.fmt_any n W (by omega) EW.bj hbl
      have hup := upper_low ⟨n, hn⟩
      have hll := lin.lowL_len 1 n (by omega)
      have UP : ∀ W, Calls Tryz.prog 10 #[.string (BA (lin.lowL n))] W fun e w' => e = .returned (.string (TX (hexU (n : Int)))) ∧ Below W.heap.size W w' := fun W => by
        have := Tryz.strings_ToUpper_ascii (BA (lin.lowL n)) W (by rw [lin.BA_size]; omega) (fun j b hb => low_asc ⟨n, hn⟩ b (List.mem_of_getElem? hb))
        rw [show (⟨(Lib.toUpperA (BA (lin.lowL n)).data.toList).toArray⟩ : ByteArray) = TX (hexU (n : Int)) from by unfold TX; rw [← hup]; rfl] at this
        exact this
      have HT : Hid (TX (printL (n : Int) true) = ⟨#[92, 120, 123]⟩ ++ TX (hexU (n : Int)) ++ ⟨#[125]⟩) := by unfold Hid; rw [HP2.out, TX_app, TX_app]; rfl
      have hhs : (TX (hexU (n : Int))).size ≤ 2 := by rw [TX_size]; unfold hexU; split <;> simp
      have s1 : ByteArray.size ⟨#[92, 120, 123]⟩ = 3 := rfl
      have s2 : ByteArray.size ⟨#[125]⟩ = 1 := rfl
      rw [HT.out]
      obtain ⟨Q, hQ⟩ : ∃ Q, printL (n : Int) true = Q := ⟨_, rfl⟩
      clear hQ Q HT HP2 HPL HC HCT HX1 hup E EW
      generalize TX (hexU (n : Int)) = H at *
      have d1 : ((⟨#[92, 120, 123]⟩ : ByteArray) ++ H).size ≤ 5 := by rw [ByteArray.size_append]; show 3 + H.size ≤ 5; omega
      generalize BA (lin.lowL n) = LL at *
      rcases (show n < 32 ∨ n = 127 from by omega) with h32 | h127
      · have c1 : (n : Int) < 32 := by omega
        clear hc
        go_enter Tryz.func5, Tryz.ntmps5
        go_wp2_with fail
        refine C.mono ?_
        rintro e w1 ⟨rfl, rfl⟩
        clear C
        go_wp2_with fail
        refine FM.mono ?_
        rintro e w2 ⟨rfl, hb2⟩
        go_wp2_with fail
        refine (UP _).mono ?_
        rintro e w3 ⟨rfl, hb3⟩
        generalize (⟨#[92, 120, 123]⟩ : ByteArray) ++ H = Y at *
        go_wp2
        go_ret
        exact ⟨rfl, (HB.out.trans (hb2.mono HB.out.size)).trans (hb3.mono (Nat.le_trans HB.out.size hb2.size))⟩
      · subst h127
        clear hc
        go_enter Tryz.func5, Tryz.ntmps5
        go_wp2_with fail
        refine C.mono ?_
        rintro e w1 ⟨rfl, rfl⟩
        clear C
        go_wp2_with fail
        refine FM.mono ?_
        rintro e w2 ⟨rfl, hb2⟩
        go_wp2_with fail
        refine (UP _).mono ?_
        rintro e w3 ⟨rfl, hb3⟩
        generalize (⟨#[92, 120, 123]⟩ : ByteArray) ++ H = Y at *
        go_wp2
        go_ret
        exact ⟨rfl, (HB.out.trans (hb2.mono HB.out.size)).trans (hb3.mono (Nat.le_trans HB.out.size hb2.size))⟩
    · have HP2 : Hid (printL r true = if r ∈ marksC then 92 :: enc r else enc r) := by unfold Hid; rw [HPL.out, if_neg hc]
      have CT := HCT.out W hm
      have c1 : ¬ r < 32 := by omega
      have c2 : ¬ r = 127 := by omega
      have c3 : (r == 127) = false := by simp [c2]
      have s1 : ByteArray.size ⟨#[92]⟩ = 1 := rfl
      by_cases hmk : r ∈ marksC
      · have HT : Hid (TX (printL r true) = ⟨#[92]⟩ ++ X) := by unfold Hid; rw [HP2.out, if_pos hmk]; exact HX1.out
        rw [HT.out]
        rw [decide_eq_true hmk] at CT
        clear HT HP2 HPL HC HCT HX1 E EW hc hmk
        go_enter Tryz.func5, Tryz.ntmps5
        go_wp2_with fail
        refine C.mono ?_
        rintro e w1 ⟨rfl, rfl⟩
        clear C
        go_wp2_with fail
        refine CT.mono ?_
        rintro e w2 ⟨rfl, rfl⟩
        go_wp2
        go_ret
        exact ⟨rfl, HB.out⟩
      · have HT : Hid (TX (printL r true) = X) := by unfold Hid; rw [HP2.out, if_neg hmk]; exact HXE.out
        rw [HT.out]
        rw [decide_eq_false hmk] at CT
        clear HT HP2 HPL HC HCT HX1 E EW hc hmk HXE
        go_enter Tryz.func5, Tryz.ntmps5
        go_wp2_with fail
        refine C.mono ?_
        rintro e w1 ⟨rfl, rfl⟩
        clear C
        go_wp2_with fail
        refine CT.mono ?_
        rintro e w2 ⟨rfl, rfl⟩
        go_wp2
        go_ret
        exact ⟨rfl, HB.out⟩
theorem print_any (r : Int) (cls : Bool) (w : World) (E : PEnv w) : Calls Tryz.prog 5 #[.int .i64 r, .bool cls] w fun e w' => e = .returned (.string (TX (printL r cls))) ∧ Below w.heap.size w w' := by
  cases cls
  · exact print_false r w E
  · exact print_true r w E
end Go.Proofs.YtlgkfnecahgedabGreatDoor.tok
end

section
/- The tokens of quoted code points. Plain mathematics. -/
set_option linter.unusedVariables false
set_option linter.unusedSimpArgs false
namespace Go.Proofs.YtlgkfnecahgedabGreatDoor.tok
open Go.RowKit
open utf (len enc)

/-- What a pattern says for code points, one behind the other; how many of the numbers are code points. -/
def quo : List Int → List Int
  | [] => []
  | r :: l => printL r false ++ quo l
def cntQ : List Int → Nat
  | [] => 0
  | r :: l => (if len r = 0 then 0 else 1) + cntQ l
theorem quo_app (l m : List Int) : quo (l ++ m) = quo l ++ quo m := by
  induction l with
  | nil => rfl
  | cons r l ih => simp only [List.cons_append, quo, ih, List.append_assoc]
theorem cntQ_app (l m : List Int) : cntQ (l ++ m) = cntQ l + cntQ m := by
  induction l with
  | nil => simp [cntQ]
  | cons r l ih => simp only [List.cons_append, cntQ, ih]; omega
theorem quo_len (l : List Int) : (quo l).length ≤ 6 * l.length := by
  induction l with
  | nil => simp [quo]
  | cons r l ih =>
    simp only [quo, List.length_append, List.length_cons]
    by_cases hr : len r = 0
    · rw [print_none r false hr]; simp; omega
    · have := print_pos r false hr; omega
theorem cntQ_le (l : List Int) : cntQ l ≤ l.length := by
  induction l with
  | nil => simp [cntQ]
  | cons r l ih => simp only [cntQ, List.length_cons]; split <;> omega
theorem quo_range (l : List Int) : ∀ i, 0 ≤ (quo l).getD i 0 ∧ (quo l).getD i 0 ≤ 255 := by
  induction l with
  | nil => intro i; simp [quo]
  | cons r l ih =>
    intro i
    simp only [quo]
    rcases Nat.lt_or_ge i (printL r false).length with h | h
    · have := print_range r false i
      simpa [List.getD, List.getElem?_append_left h] using this
    · have := ih (i - (printL r false).length)
      simpa [List.getD, List.getElem?_append_right h] using this
theorem scan_quo (f : Nat → Int) (n : Nat) (l : List Int) : ∀ a, Here f n a (quo l) → a + (quo l).length = n → (scanA f n a 0).2 = (0, 0) ∧ (scanA f n a 0).1.length = cntQ l ∧ ∀ t ∈ (scanA f n a 0).1, t.kind = 1 := by
  induction l with
  | nil =>
    intro a _ hn
    simp only [quo, List.length_nil, Nat.add_zero] at hn
    subst hn
    rw [scanA_end]
    exact ⟨rfl, rfl, fun t ht => by cases ht⟩
  | cons r l ih =>
    intro a h hn
    simp only [quo] at h hn
    by_cases hr : len r = 0
    · rw [print_none r false hr, List.nil_append] at h hn
      have := ih a h hn
      simp only [cntQ, if_pos hr, Nat.zero_add]
      exact this
    · have hp := print_pos r false hr
      rw [List.length_append] at hn
      have ht := token_print f n (a := a) (k := 0) hr h.left
      rw [show printL r (decide (0 < 0)) = printL r false from rfl] at ht
      have := ih (a + (printL r false).length) h.right (by omega)
      rw [scanA_ok f n ht (by omega)]
      refine ⟨this.1, ?_, ?_⟩
      · simp only [List.length_cons, cntQ, if_neg hr]
        rw [this.2.1]
        omega
      · intro t h'
        rcases List.mem_cons.1 h' with rfl | h'
        · rfl
        · exact this.2.2 t h'
end Go.Proofs.YtlgkfnecahgedabGreatDoor.tok
end

section
/- How slices of numbers that came in as arguments read. -/
set_option linter.unusedVariables false
set_option linter.unusedSimpArgs false
namespace Go.Proofs.YtlgkfnecahgedabGreatDoor.tok
open Go.ChangeShapes Go.WideShapes Go.ChangeAt Go.RowKit Go.Deep

/-- The argument v reads as the numbers l. -/
def ArgI (W : World) (v : Value) (l : List Int) : Prop := ∃ ao cap, v = .slice ao l.length cap ∧ (0 < l.length → ∃ b o, ao = some ⟨b, o, none⟩ ∧ ∀ j, j < l.length → W.cell? ⟨b, o + j, none⟩ = some (.int .i64 (l.getD j 0))) ∧ l.length ≤ cap ∧ cap ≤ 9223372036854775807 ∧ (ao = none → cap = 0)
set_option maxRecDepth 100000 in
theorem open_ints {H : Type} {enc : TypeId × Value → H} {W : World} {base : Nat} {v : Value} {d : DataW H} {p : List MemPlace}
    (hv : Value.okWide Tryz.prog W .any base 22 v) (h : DataW.Trod enc Tryz.prog W 0 (fun _ => true) true 22 v d p) :
    ∃ l : List Int, ArgI W v l := by
  obtain ⟨ao, n, cap, rfl⟩ := okWide_slice Tryz.underlying22 hv
  obtain ⟨fuel, hf⟩ := h
  rcases open_slice Tryz.underlying22 hf with ⟨hcs, _⟩ | ⟨a, len, cap', m, k, D, Pl, hcs, _, hl, hm, hmm, hx, hel⟩
  · simp [Value.cells] at hcs
    obtain ⟨rfl, rfl, rfl⟩ := hcs
    exact ⟨[], none, 0, rfl, fun h => by simp at h, by simp, by omega, fun _ => rfl⟩
  · simp [Value.cells] at hcs
    obtain ⟨rfl, rfl, rfl⟩ := hcs
    simp at hmm
    subst hmm
    have c1 : Tryz.prog.cellsOf 3 = 1 := by kernel_rfl
    have each : ∀ i, i < n → ∃ r : Int, W.cell? (a.add i) = some (.int .i64 r) := by
      intro i hi
      obtain ⟨cs', h1, h2⟩ := hel i (by omega)
      rw [c1] at h1
      obtain ⟨_, hlen, hcell⟩ := World.cells?_some h1
      match cs', hlen with
      | [v0], _ =>
        have e0 := hcell 0 (by omega)
        rw [Go.Deep.add_add] at e0
        obtain ⟨x0, hv0, hy0, hw0⟩ := DataW.trod_int Tryz.underlying3 h2
        obtain rfl : v0 = .int .i64 x0 := by simpa using hv0
        exact ⟨x0, by simpa using e0⟩
    obtain ⟨Rf, hR⟩ := choose_lt each
    unfold maxLen at hm
    refine ⟨(List.range n).map Rf, some a, _, by rw [List.length_map, List.length_range], fun h00 => ?_, by simpa using hl, by omega, fun e => by cases e⟩
    · have h0 : 0 < n := by simpa using h00
      obtain ⟨b, off, spot⟩ := a
      have hspot : spot = none := by simpa [Addr.add] using World.cell?_spot (hR 0 h0)
      subst hspot
      refine ⟨b, off, rfl, fun i hi => ?_⟩
      have hil : i < n := by simpa using hi
      have q1 := hR i hil
      rw [Addr.add_lit] at q1
      rw [q1, List.getD_eq_getElem?_getD, List.getElem?_map, List.getElem?_range hil]
      rfl
end Go.Proofs.YtlgkfnecahgedabGreatDoor.tok
end

section
/- TokenJoins' own quoted: what is said for the first 50 numbers, and how many of them are code points. -/
set_option linter.unusedVariables false
set_option linter.unusedSimpArgs false
namespace Go.Proofs.YtlgkfnecahgedabGreatDoor.tok
open Go.RowKit
open utf (len enc)
open lin (BA Turns)

theorem cells_TX (L : List Int) (hL : ∀ i, 0 ≤ L.getD i 0 ∧ L.getD i 0 ≤ 255) : Lib.strCells (TX L) = L.map (Value.int .u8) := by
  unfold Lib.strCells TX
  rw [show (BA (Lib.bytesOf L)).data.toList = Lib.bytesOf L from rfl]
  apply List.ext_getElem?
  intro i
  have h := hL i
  rw [List.getD_eq_getElem?_getD] at h
  by_cases hi : i < L.length
  · simp [Lib.bytesOf, hi] at h ⊢
    omega
  · simp [Lib.bytesOf, hi]
theorem quo_snoc (l : List Int) (r : Int) : quo (l ++ [r]) = quo l ++ printL r false := by rw [quo_app]; simp [quo]
theorem cntQ_snoc (l : List Int) (r : Int) : cntQ (l ++ [r]) = cntQ l + (if len r = 0 then 0 else 1) := by rw [cntQ_app]; simp [cntQ]

set_option maxHeartbeats 4000000 in
set_option maxRecDepth 1000000 in
theorem quoted_any (v : Value) (l : List Int) (w : World) (h : ArgI w v l) (E : PEnv w) :
    Calls Tryz.prog 4 #[v] w fun e w' => ∃ v', e = .returned (.tuple #[v', .int .i64 (cntQ (l.take 50) : Nat)]) ∧ w'.ownsRow w.heap.size 5 1 v' (quo (l.take 50)).length ((quo (l.take 50)).map (Value.int .u8)) ∧ Below w.heap.size w w' := by
  obtain ⟨i0, hi, hz0, hz1, hz2⟩ := info_parts utf.infoByte
  have HE : Hid (PEnv w) := E
  obtain ⟨ao, cap, rfl, hcells, hcap, hmax, hnil⟩ := h
  obtain ⟨n, hn⟩ : ∃ n, min l.length 50 = n := ⟨_, rfl⟩
  have hnl : n ≤ l.length := by omega
  have hn50 : n ≤ 50 := by omega
  have hmin : min (l.length : Int) 50 = (n : Int) := by omega
  have hmin2 : (if (l.length : Int) < 50 then (l.length : Int) else 50) = (n : Int) := by split <;> omega
  have hmin3 : (if (50 : Int) < (l.length : Int) then 50 else (l.length : Int)) = (n : Int) := by split <;> omega
  have hmin4 : (if (l.length : Int) ≤ 50 then (l.length : Int) else 50) = (n : Int) := by split <;> omega
  have hncap : (n : Int) ≤ (cap : Int) := by omega
  have hn0 : (0 : Int) ≤ (n : Int) := by omega
  have HT : Hid (l.take n = l.take 50) := by
    unfold Hid
    rw [← hn]
    rcases Nat.le_total l.length 50 with h | h
    · rw [Nat.min_eq_left h, List.take_of_length_le (Nat.le_refl _), List.take_of_length_le h]
    · rw [Nat.min_eq_right h]
  have HC : Hid (∀ k, k < n → ∃ x b o, ao = some ⟨b, o, none⟩ ∧ w.cell? ⟨b, o + k, none⟩ = some (.int .i64 x) ∧ quo (l.take (k + 1)) = quo (l.take k) ++ printL x false ∧ cntQ (l.take (k + 1)) = cntQ (l.take k) + (if len x = 0 then 0 else 1) ∧ (quo (l.take k)).length ≤ 6 * k ∧ cntQ (l.take k) ≤ k) := fun k hk => by
    obtain ⟨b, o, e, hc⟩ := hcells (by omega)
    have hk' : k < l.length := by omega
    have h1 := hc k hk'
    rw [List.getD_eq_getElem?_getD, List.getElem?_eq_getElem hk'] at h1
    refine ⟨l[k], b, o, e, h1, ?_, ?_, ?_, ?_⟩
    · rw [List.take_succ_eq_append_getElem hk', quo_snoc]
    · rw [List.take_succ_eq_append_getElem hk', cntQ_snoc]
    · have := quo_len (l.take k)
      rw [List.length_take] at this
      omega
    · have := cntQ_le (l.take k)
      rw [List.length_take] at this
      omega
  rw [← HT.out]
  generalize l.length = ll at *
  clear hcells hnil hn HT E
  go_enter Tryz.func4, Tryz.ntmps4
  go_wp2
  go_loopw [4, 5, 15] (fun v c i wr => ∃ k : Nat, k ≤ n ∧ i = .int .i64 k ∧ c = .int .i64 (cntQ (l.take k) : Nat) ∧ Hid (wr.ownsRow w.heap.size 5 1 v (quo (l.take k)).length ((quo (l.take k)).map (Value.int .u8))) ∧ Hid (Below w.heap.size w wr)) (fun _ _ i _ => n - (RowKit.intOf i).toNat)
  case atStart => exact ⟨0, Nat.zero_le _, rfl, rfl, World.ownsRow_nil _ _ _ _, Below.refl _ _⟩
  case round =>
    obtain ⟨k, hk, rfl, rfl, HO, HB⟩ := hrel
    by_cases hlt : k < n
    · have hlt' : (k : Int) < (n : Int) := by omega
      have hk0 : (0 : Int) ≤ (k : Int) := by omega
      obtain ⟨x, b, o, rfl, d1, hq, hc, htl, hcl⟩ := HC.out k hlt
      have f1 : wr.cell? ⟨b, o + k, none⟩ = some (.int .i64 x) := (HB.out.cell (World.block_lt_of_cell? w _ d1)).trans d1
      have PR := print_any x false wr (HE.out.below HB.out)
      have HQ : Hid (quo (l.take (k + 1)) = quo (l.take k) ++ printL x false) := hq
      have HCQ : Hid (cntQ (l.take (k + 1)) = cntQ (l.take k) + (if len x = 0 then 0 else 1)) := hc
      have HSC : Hid (Lib.strCells (TX (printL x false)) = (printL x false).map (Value.int .u8)) := cells_TX _ (print_range x false)
      have hts := TX_size (printL x false)
      obtain ⟨ya, yc, rfl⟩ := lin.own_slice HO.out
      clear d1 hq hc
      generalize cntQ (l.take k) = c0 at *
      by_cases hx : len x = 0
      · have HC2 : Hid (cntQ (l.take (k + 1)) = c0) := by unfold Hid; rw [HCQ.out, if_pos hx]; rfl
        rw [print_none x false hx] at PR HQ HSC
        rw [show TX [] = ⟨#[]⟩ from rfl] at PR HSC
        clear hts HCQ hx
        go_wp2_with fail
        refine PR.mono ?_
        rintro e w2 ⟨rfl, hb2⟩
        have HO2 : Hid (w2.ownsRow w.heap.size 5 1 (.slice ya (quo (l.take k)).length yc) (quo (l.take k)).length ((quo (l.take k)).map (Value.int .u8))) := utf.own_below HO.out hb2
        have HB2 : Hid (Below w.heap.size w w2) := HB.out.trans (hb2.mono HB.out.size)
        have HV : Hid (∀ j, (Value.slice ya (quo (l.take k)).length yc).ownBlock = some j → w.heap.size ≤ j) := fun j e => (HO.out.lt _ e).1
        clear PR HO HB hb2
        have hsz := HB2.out.size
        generalize quo (l.take k) = BL at *
        go_wp2_with (at_builtin; refine Lib.wpList_append_own_string _ rfl _ _ 23 9 rfl w.heap.size 5 i0 Tryz.underlying23 Tryz.underlying9 hi hz0 hz1 hz2 _ _ _ rfl HO2.out ⟨#[]⟩ rfl ?c0 ?c1 ?c2 ?_)
        case c0 => unfold maxLen; have : ByteArray.size ⟨#[]⟩ = 0 := rfl; omega
        case c1 => have : ByteArray.size ⟨#[]⟩ = 0 := rfl; omega
        case c2 => omega
        · intro v' w3 hown3 hgrow _
          have R3 : Hid (Below w.heap.size w w3) := Below.grown HB2.out hgrow hsz HV.out
          have R1 : Hid (w3.ownsRow w.heap.size 5 1 v' (quo (l.take (k + 1))).length ((quo (l.take (k + 1))).map (Value.int .u8))) := by
            show World.ownsRow _ _ _ _ _ _ _
            rw [HQ.out, List.length_append, List.map_append]
            rw [HSC.out] at hown3
            exact hown3
          clear hown3 hgrow HO2 HB2
          go_wp2
          go_roundw
          case rel => exact ⟨k + 1, by omega, by go_num, by rw [HC2.out], R1, R3⟩
          case measure => (first | simp [intOf] | simp [Go.RowKit.intOf]); omega
      · have HC2 : Hid (cntQ (l.take (k + 1)) = c0 + 1) := by unfold Hid; rw [HCQ.out, if_neg hx]
        have hpp := print_pos x false hx
        obtain ⟨X, hX⟩ : ∃ X, TX (printL x false) = X := ⟨_, rfl⟩
        rw [hX] at PR HSC hts
        obtain ⟨K, hK⟩ : ∃ K, (printL x false).length = K := ⟨_, rfl⟩
        rw [hK] at hts hpp
        have HK : Hid ((printL x false).length = K) := hK
        clear hX hK HCQ hx
        have hxe : ¬ X.toList = [] := fun e => by
          have h1 : X.toList.length = X.size := by rw [Lib.toList_data]; exact Array.length_toList
          rw [e] at h1
          simp at h1
          omega
        have hxe2 : X.toList.isEmpty = false := by
          cases hq : X.toList with
          | nil => exact absurd hq hxe
          | cons _ _ => rfl
        go_wp2_with fail
        refine PR.mono ?_
        rintro e w2 ⟨rfl, hb2⟩
        have HO2 : Hid (w2.ownsRow w.heap.size 5 1 (.slice ya (quo (l.take k)).length yc) (quo (l.take k)).length ((quo (l.take k)).map (Value.int .u8))) := utf.own_below HO.out hb2
        have HB2 : Hid (Below w.heap.size w w2) := HB.out.trans (hb2.mono HB.out.size)
        have HV : Hid (∀ j, (Value.slice ya (quo (l.take k)).length yc).ownBlock = some j → w.heap.size ≤ j) := fun j e => (HO.out.lt _ e).1
        clear PR HO HB hb2
        have hsz := HB2.out.size
        generalize quo (l.take k) = BL at *
        go_wp2_with (at_builtin; refine Lib.wpList_append_own_string _ rfl _ _ 23 9 rfl w.heap.size 5 i0 Tryz.underlying23 Tryz.underlying9 hi hz0 hz1 hz2 _ _ _ rfl HO2.out X rfl ?c0 ?c1 ?c2 ?_)
        case c0 => unfold maxLen;  omega
        case c1 =>  omega
        case c2 => omega
        · intro v' w3 hown3 hgrow _
          have R3 : Hid (Below w.heap.size w w3) := Below.grown HB2.out hgrow hsz HV.out
          have R1 : Hid (w3.ownsRow w.heap.size 5 1 v' (quo (l.take (k + 1))).length ((quo (l.take (k + 1))).map (Value.int .u8))) := by
            show World.ownsRow _ _ _ _ _ _ _
            rw [HQ.out, List.length_append, List.map_append]
            rw [HSC.out] at hown3
            rw [HK.out]; exact hown3
          clear hown3 hgrow HO2 HB2
          go_wp2
          go_roundw
          case rel => exact ⟨k + 1, by omega, by go_num, by rw [HC2.out]; go_num, R1, R3⟩
          case measure => (first | simp [intOf] | simp [Go.RowKit.intOf]); omega
    · obtain rfl : k = n := by omega
      have hlt' : ¬ (k : Int) < (k : Int) := by omega
      have HR : Hid (wr.ownsRow w.heap.size 5 1 u4 (quo (l.take k)).length ((quo (l.take k)).map (Value.int .u8)) ∧ Below w.heap.size w wr) := ⟨HO.out, HB.out⟩
      clear HO HB
      go_wp2
      go_ret2
      exact ⟨_, rfl, HR.out⟩
end Go.Proofs.YtlgkfnecahgedabGreatDoor.tok
end
