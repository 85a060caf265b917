/- What names.Loose answers of any string. -/
import Derived.Test.YtnpnmhjhohhnjaaDoorNamBd
import Derived.WalkSmall
set_option linter.unusedVariables false
set_option linter.unusedSimpArgs false
namespace Go.Proofs.YtnpnmhjhohhnjaaDoor.nam
open Go.RowKit lin

set_option maxHeartbeats 1500000 in
set_option maxRecDepth 100000 in
theorem loose_any (s : ByteArray) (w : World) (hs : s.size ≤ 140737488355327) :
    Calls Tryd.prog 8 #[.string s] w fun e w' => e = .returned (.string (BA (looseL s.data.toList))) ∧ Below w.heap.size w w' := by
  have BN : Hid (Bd (w.alloc (.cells #[.pointer none, .slice none 0 0] 41)) w.heap.size []) := Bd.new w
  have HNX : Hid (∀ k (h : k < s.size), s.data.toList.take (k + 1) = s.data.toList.take k ++ [s[k]'h]) := take_next s
  have HLN : Hid (∀ k, k ≤ s.size → (sift (s.data.toList.take k)).length ≤ k) := fun k hk => Nat.le_trans (sift_len _) (by rw [List.length_take]; omega)
  have HALL : Hid (s.data.toList.take s.size = s.data.toList) := List.take_of_length_le (by simp)
  go_enter Tryd.func8, Tryd.ntmps8
  go_wp2
  go_loopw [8] (fun i wr => ∃ k : Nat, k ≤ s.size ∧ i = .int .i64 k ∧ Hid (Bd wr w.heap.size (sift (s.data.toList.take k))) ∧ Below w.heap.size w wr) (fun i _ => s.size - (RowKit.intOf i).toNat)
  case atStart => exact ⟨0, Nat.zero_le _, rfl, BN, (Below.refl _ w).alloc (Nat.le_refl _) _⟩
  case round =>
    clear BN
    obtain ⟨k, hk, rfl, HB, hbel⟩ := hrel
    by_cases hlt : k < s.size
    · have hlt' : (k : Int) < (s.size : Int) := by omega
      have hl := HLN.out k hk
      have htk := HNX.out k hlt
      have hbs := hbel.size
      have hlo := low_not (s[k]'hlt)
      have hgr := low_great (s[k]'hlt)
      have hel := low_else (s[k]'hlt)
      have h256 : (s[k]'hlt).toNat < 256 := UInt8.toNat_lt _
      have HSN : Hid (sift (s.data.toList.take (k + 1)) = sift (s.data.toList.take k) ++ low (s[k]'hlt)) := by rw [Hid, htk, sift_snoc]
      clear htk
      have HX : Hid ((s[k]'hlt) = UInt8.ofNat (s[k]'hlt).toNat) := by simp [Hid]
      have HC : Hid (∃ c : UInt8, (s[k]'hlt) = c) := ⟨_, rfl⟩
      obtain ⟨c, hc⟩ := HC.out
      clear HC
      have hr0 : ((s[k]'hlt).toNat : Int) = (c.toNat : Int) := by rw [hc]
      rw [hc] at hlo hgr hel h256 HSN HX
      clear hc
      by_cases h1 : c.toNat = 32 ∨ c.toNat = 45 ∨ c.toNat = 95
      · have HN : Hid (sift (s.data.toList.take (k + 1)) = sift (s.data.toList.take k)) := by rw [Hid, HSN.out, hlo h1, List.append_nil]
        have HB2 : Hid (Bd wr w.heap.size (sift (s.data.toList.take (k + 1)))) := by rw [Hid, HN.out]; exact HB.out
        clear hlo hgr hel HSN HX HN HB
        have h1' : (c.toNat : Int) = 32 ∨ (c.toNat : Int) = 45 ∨ (c.toNat : Int) = 95 := by omega
        clear h1 h256
        generalize hr : (c.toNat : Int) = r at *
        clear hr
        cases t1 : (r == 32) with
        | true =>
          clear h1'
          go_wp2
          exact ⟨⟨k + 1, by omega, by go_num, HB2, hbel⟩, by simp [intOf]; omega⟩
        | false =>
          cases t2 : (r == 45) with
          | true =>
            clear h1'
            go_wp2
            exact ⟨⟨k + 1, by omega, by go_num, HB2, hbel⟩, by simp [intOf]; omega⟩
          | false =>
            have t3 : (r == 95) = true := by simp at t1 t2 ⊢; omega
            clear h1'
            go_wp2
            exact ⟨⟨k + 1, by omega, by go_num, HB2, hbel⟩, by simp [intOf]; omega⟩
      · have t1 : ((c.toNat : Int) == 32) = false := by simp; omega
        have t2 : ((c.toNat : Int) == 45) = false := by simp; omega
        have t3 : ((c.toNat : Int) == 95) = false := by simp; omega
        by_cases h2 : 65 ≤ c.toNat ∧ c.toNat ≤ 90
        · have WB := wbyte_any w.heap.size (sift (s.data.toList.take k)) ((c.toNat : Int) + 32) wr HB.out (by omega) (by omega) (by omega)
          have HN : Hid (sift (s.data.toList.take k) ++ [UInt8.ofNat ((c.toNat : Int) + 32).toNat] = sift (s.data.toList.take (k + 1))) := by
            rw [Hid, HSN.out, hgr h2.1 h2.2 h1, show ((c.toNat : Int) + 32).toNat = c.toNat + 32 from by omega]
          clear hlo hgr hel HSN HX HB h1
          have h3' : (65 : Int) ≤ (c.toNat : Int) := by omega
          have h4' : (c.toNat : Int) ≤ 90 := by omega
          clear h2 h256
          generalize hr : (c.toNat : Int) = r at *
          clear hr
          have e1 : IntKind.u8.wrap (r - 65) = r - 65 := by simp [IntKind.wrap, IntKind.signed, IntKind.bits]; omega
          have e2 : IntKind.u8.wrap (r - 65 + 97) = r + 32 := by simp [IntKind.wrap, IntKind.signed, IntKind.bits]; omega
          go_wp2_with fail
          refine WB.mono ?_
          rintro e w2 ⟨rfl, hb2, hbl⟩
          have HB2 : Hid (Bd w2 w.heap.size (sift (s.data.toList.take (k + 1)))) := by rw [Hid, ← HN.out]; exact hb2
          have hb3 := hbel.trans hbl
          clear WB HN hb2 hbl hbel
          go_wp2
          exact ⟨⟨k + 1, by omega, by go_num, HB2, hb3⟩, by simp [intOf]; omega⟩
        · have WB := wbyte_any w.heap.size (sift (s.data.toList.take k)) (c.toNat : Int) wr HB.out (by omega) (by omega) (by omega)
          have HN : Hid (sift (s.data.toList.take k) ++ [UInt8.ofNat (c.toNat : Int).toNat] = sift (s.data.toList.take (k + 1))) := by
            rw [Hid, HSN.out, hel h2 h1, show ((c.toNat : Int)).toNat = c.toNat from by omega]
            rw [← HX.out]
          clear hlo hgr hel HSN HX HB h1
          have h2' : ¬ ((65 : Int) ≤ (c.toNat : Int) ∧ (c.toNat : Int) ≤ 90) := by omega
          clear h2 h256
          generalize hr : (c.toNat : Int) = r at *
          clear hr
          by_cases h3 : 65 ≤ r
          · have h4' : ¬ r ≤ 90 := by omega
            clear h2'
            go_wp2_with fail
            refine WB.mono ?_
            rintro e w2 ⟨rfl, hb2, hbl⟩
            have HB2 : Hid (Bd w2 w.heap.size (sift (s.data.toList.take (k + 1)))) := by rw [Hid, ← HN.out]; exact hb2
            have hb3 := hbel.trans hbl
            clear WB HN hb2 hbl hbel
            go_wp2
            exact ⟨⟨k + 1, by omega, by go_num, HB2, hb3⟩, by simp [intOf]; omega⟩
          · clear h2'
            go_wp2_with fail
            refine WB.mono ?_
            rintro e w2 ⟨rfl, hb2, hbl⟩
            have HB2 : Hid (Bd w2 w.heap.size (sift (s.data.toList.take (k + 1)))) := by rw [Hid, ← HN.out]; exact hb2
            have hb3 := hbel.trans hbl
            clear WB HN hb2 hbl hbel
            go_wp2
            exact ⟨⟨k + 1, by omega, by go_num, HB2, hb3⟩, by simp [intOf]; omega⟩
    · have hge : ¬ (k : Int) < (s.size : Int) := by omega
      obtain rfl : k = s.size := by omega
      rw [HALL.out] at HB
      have LN := len_any w.heap.size (sift s.data.toList) wr HB.out
      have ST := string_any w.heap.size (sift s.data.toList) wr HB.out
      have HL1 : Hid ((sift s.data.toList).length = 2 → strip (sift s.data.toList) = sift s.data.toList) := strip_two _
      have HL2 : Hid ((sift s.data.toList).length ≠ 2 → strip (sift s.data.toList) = Lib.trimPrefix (sift s.data.toList) [105, 115]) := strip_trim _
      have HLO : Hid (looseL s.data.toList = strip (sift s.data.toList)) := rfl
      have hl := HLN.out s.size (Nat.le_refl _)
      rw [HALL.out] at hl
      generalize sift s.data.toList = l at *
      go_wp2_with fail
      refine LN.mono ?_
      rintro e w2 ⟨rfl, rfl⟩
      by_cases h2 : l.length = 2
      · have t1 : ((l.length : Int) == 2) = true := by simp; omega
        have HE : Hid (looseL s.data.toList = l) := HLO.out.trans (HL1.out h2)
        clear HL1 HL2 HLO
        go_wp2_with fail
        refine ST.mono ?_
        rintro e w3 ⟨rfl, hb3⟩
        have hb4 := hbel.trans hb3
        go_wp2
        go_ret
        exact ⟨by rw [HE.out]; rfl, hb4⟩
      · have t1 : ((l.length : Int) == 2) = false := by simp; omega
        have HE : Hid (looseL s.data.toList = Lib.trimPrefix l [105, 115]) := HLO.out.trans (HL2.out h2)
        clear HL1 HL2 HLO
        go_wp2_with fail
        refine ST.mono ?_
        rintro e w3 ⟨rfl, hb3⟩
        have hb4 := hbel.trans hb3
        have TP := Tryd.strings_TrimPrefix (BA l) ⟨#[105, 115]⟩ w3
        go_wp2_with fail
        refine TP.mono ?_
        rintro e w4 ⟨rfl, rfl⟩
        go_wp2
        go_ret
        exact ⟨by rw [HE.out]; rfl, hb4⟩
end Go.Proofs.YtnpnmhjhohhnjaaDoor.nam
