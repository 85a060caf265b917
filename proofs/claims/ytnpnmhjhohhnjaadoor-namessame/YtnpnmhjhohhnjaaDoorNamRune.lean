/- What strings.IndexRune answers of a rune in the text of an equals sign and a colon. -/
import Derived.Test.YtnpnmhjhohhnjaaDoorNamBd
import Derived.Test.YtnpnmhjhohhnjaaDoorLinFields
set_option linter.unusedVariables false
set_option linter.unusedSimpArgs false
namespace Go.Proofs.YtnpnmhjhohhnjaaDoor.nam
open Go.RowKit lin

theorem byte_k (s : ByteArray) (c : Int) (w : World) :
    Calls Tryd.prog 59 #[.string s, .int .u8 c] w fun e w' => e = .returned (.int .i64 (Lib.indexByte s.data.toList c.toNat.toUInt8)) ∧ w' = w :=
  Any.strings_IndexByte { Tryd.lays153 with } s c w
theorem index_set : ∀ c : Fin 128, (0 ≤ Lib.indexByte [61, 58] (c.val.toUInt8) ↔ (c.val = 61 ∨ c.val = 58)) := by decide +kernel

set_option maxHeartbeats 1000000 in
set_option maxRecDepth 100000 in
theorem rune_low (c : Nat) (w : World) (hc : c < 128) :
    Calls Tryd.prog 41 #[.string ⟨#[61, 58]⟩, .int .i32 c] w fun e w' => ∃ k, e = .returned (.int .i64 k) ∧ (0 ≤ k ↔ (c = 61 ∨ c = 58)) ∧ Below w.heap.size w w' := by
  have BK := byte_k ⟨#[61, 58]⟩ c w
  have HI := index_set ⟨c, hc⟩
  have BK2 : Calls Tryd.prog 59 #[.string ⟨#[61, 58]⟩, .int .u8 c] w fun e w' => e = .returned (.int .i64 (Lib.indexByte [61, 58] c.toUInt8)) ∧ w' = w := BK
  clear BK
  simp only [] at HI
  generalize Lib.indexByte [61, 58] c.toUInt8 = k at *
  have HI2 : Hid (0 ≤ k ↔ (c = 61 ∨ c = 58)) := HI
  clear HI
  have t1 : (0 : Int) ≤ (c : Int) := by omega
  have t2 : (c : Int) < 128 := by omega
  go_enter Tryd.func41, Tryd.ntmps41
  go_wp2_with fail
  refine BK2.mono ?_
  rintro e w2 ⟨rfl, rfl⟩
  go_wp2
  all_goals try rw [Exit.noGoto_ret]
  go_ret
  exact ⟨_, rfl, HI2.out, Below.refl _ _⟩

theorem valid_any (c : Nat) (w : World) (hm : c ≤ 1114111) (hv : c < 55296 ∨ 57343 < c) :
    Calls Tryd.prog 60 #[.int .i32 c] w fun e w' => e = .returned (.bool true) ∧ w' = w := by
  have t1 : (0 : Int) ≤ (c : Int) := by omega
  rcases hv with hv | hv
  · have t2 : (c : Int) < 55296 := by omega
    go_enter Tryd.func60, Tryd.ntmps60
    go_wp2
    go_ret
    exact ⟨rfl, rfl⟩
  · have t2 : ¬ (c : Int) < 55296 := by omega
    have t3 : (57343 : Int) < (c : Int) := by omega
    have t4 : (c : Int) ≤ 1114111 := by omega
    go_enter Tryd.func60, Tryd.ntmps60
    go_wp2
    go_ret
    exact ⟨rfl, rfl⟩
/-- The bytes of a rune of several bytes. -/
theorem enc_facts (c : Nat) (hc : 128 ≤ c) (hm : c ≤ 1114111) (hv : c < 55296 ∨ 57343 < c) :
    ∃ n, (n = 1 ∨ n = 2 ∨ n = 3) ∧ ∃ h : (Utf8.encode (c : Int)).size = n + 1, 128 ≤ ((Utf8.encode (c : Int))[n]'(by omega)).toNat := by
  have hval : Utf8.valid (c : Int) = true := by
    unfold Utf8.valid
    simp
    omega
  have fin : ∀ (E : ByteArray) (l : List UInt8), E = BA (l ++ [UInt8.ofNat (128 + c % 64)]) → (l.length = 1 ∨ l.length = 2 ∨ l.length = 3) → ∃ n, (n = 1 ∨ n = 2 ∨ n = 3) ∧ ∃ h : E.size = n + 1, 128 ≤ (E[n]'(by omega)).toNat := by
    rintro E l rfl hl
    have hz : (BA (l ++ [UInt8.ofNat (128 + c % 64)])).size = l.length + 1 := by rw [BA_size, List.length_append]; rfl
    refine ⟨l.length, hl, hz, ?_⟩
    show 128 ≤ ((l ++ [UInt8.ofNat (128 + c % 64)]).toArray[l.length]'(by simp)).toNat
    rw [List.getElem_toArray, List.getElem_append_right (Nat.le_refl _)]
    simp only [Nat.sub_self, List.getElem_cons_zero]
    rw [UInt8.toNat_ofNat']
    omega
  rcases Nat.lt_or_ge c 2048 with h1 | h1
  · refine fin _ [UInt8.ofNat (192 + c / 64)] ?_ (.inl rfl)
    unfold Utf8.encode
    simp only [hval, if_true, Int.toNat_natCast]
    rw [if_neg (by omega), if_pos (by omega)]
    rfl
  · rcases Nat.lt_or_ge c 65536 with h2 | h2
    · refine fin _ [UInt8.ofNat (224 + c / 4096), UInt8.ofNat (128 + c / 64 % 64)] ?_ (.inr (.inl rfl))
      unfold Utf8.encode
      simp only [hval, if_true, Int.toNat_natCast]
      rw [if_neg (by omega), if_neg (by omega), if_pos (by omega)]
      rfl
    · refine fin _ [UInt8.ofNat (240 + c / 262144), UInt8.ofNat (128 + c / 4096 % 64), UInt8.ofNat (128 + c / 64 % 64)] ?_ (.inr (.inr rfl))
      unfold Utf8.encode
      simp only [hval, if_true, Int.toNat_natCast]
      rw [if_neg (by omega), if_neg (by omega), if_neg (by omega)]
      rfl

theorem none_nil : ∀ y : Fin 256, 128 ≤ y.val → Lib.indexByte [] y.val.toUInt8 = -1 := by decide +kernel

set_option maxHeartbeats 1000000 in
set_option maxRecDepth 100000 in
theorem rune_high (c : Nat) (w : World) (hc : 128 ≤ c) (hm : c ≤ 1114111) (h3 : c ≠ 65533) (hv : c < 55296 ∨ 57343 < c) :
    Calls Tryd.prog 41 #[.string ⟨#[61, 58]⟩, .int .i32 c] w fun e w' => e = .returned (.int .i64 (-1)) ∧ Below w.heap.size w w' := by
  have t1 : (0 : Int) ≤ (c : Int) := by omega
  have t2 : ¬ (c : Int) < 128 := by omega
  have t3 : ((c : Int) == 65533) = false := by rw [beq_eq_false_iff_ne]; omega
  obtain ⟨E, hE, n, hn, hsz, hby⟩ : ∃ E, Utf8.encode (c : Int) = E ∧ ∃ n, (n = 1 ∨ n = 2 ∨ n = 3) ∧ ∃ h : E.size = n + 1, 128 ≤ (E[n]'(by omega)).toNat := ⟨_, rfl, enc_facts c hc hm hv⟩
  have VA := valid_any c w hm hv
  clear hv
  go_enter Tryd.func41, Tryd.ntmps41
  go_wp2_with fail
  refine VA.mono ?_
  rintro e w2 ⟨rfl, rfl⟩
  clear VA
  rcases hn with rfl | rfl | rfl
  · have hlt : (E[1]'(by omega)).toNat < 256 := UInt8.toNat_lt _
    generalize hy : (E[1]'(by omega)).toNat = y at *
    have BK : ∀ W, Calls Tryd.prog 59 #[.string (ByteArray.extract ⟨#[61, 58]⟩ 2 2), .int .u8 y] W fun e w' => e = .returned (.int .i64 (-1)) ∧ w' = W := by
      intro W
      refine (byte_k _ _ _).mono ?_
      rintro e w' ⟨rfl, rfl⟩
      exact ⟨by rw [show (ByteArray.extract ⟨#[61, 58]⟩ 2 2).data.toList = [] from by decide +kernel, Int.toNat_natCast, none_nil ⟨y, hlt⟩ hby], rfl⟩
    have q1 : ((58 : Int) == (y : Int)) = false := by rw [beq_eq_false_iff_ne]; omega
    have q2 : ((58 : Int) != (y : Int)) = true := by simp; omega
    have HBK : Hid (∀ W, Calls Tryd.prog 59 #[.string (ByteArray.extract ⟨#[61, 58]⟩ 2 2), .int .u8 y] W fun e w' => e = .returned (.int .i64 (-1)) ∧ w' = W) := BK
    have k1 : ((⟨#[61, 58]⟩ : ByteArray)[1]'(by decide)).toNat = 58 := rfl
    have k2 : IntKind.i64.wrap 2 = 2 := by kernel_rfl
    clear hby hlt BK
    go_wp2
    go_step3
    go_wp2
    refine wp_loop_rounds 1 ?_
    rw [rounds_succ]
    go_wp2_with fail
    go_step3
    go_wp2_with fail
    go_quiet (fail)
    go_wp2_with fail
    go_quiet (exact (HBK.out _).mono fun _ _ h => ⟨h.1, _, h.2⟩)
    go_wp2
    rw [Exit.noGoto_ret]
    go_wp2
    try rw [Exit.noGoto_ret]
    try go_wp2
    go_ret
    exact ⟨rfl, ⟨rfl, rfl, rfl, Nat.le_refl _, fun _ _ => rfl⟩⟩
  · go_wp2
    go_step3
    go_wp2
    refine wp_loop_rounds 1 ?_
    rw [rounds_succ]
    go_wp2
    rw [Exit.noGoto_ret]
    go_ret
    exact ⟨rfl, Below.refl _ _⟩
  · go_wp2
    go_step3
    go_wp2
    refine wp_loop_rounds 1 ?_
    rw [rounds_succ]
    go_wp2
    rw [Exit.noGoto_ret]
    go_ret
    exact ⟨rfl, Below.refl _ _⟩
end Go.Proofs.YtnpnmhjhohhnjaaDoor.nam
