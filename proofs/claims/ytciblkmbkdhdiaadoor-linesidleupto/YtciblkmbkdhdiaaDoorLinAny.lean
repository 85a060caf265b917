/- What strings.ContainsAny answers of a text and the set of a semicolon, a hash and a newline. -/
import Derived.Test.YtciblkmbkdhdiaaDoorLinRune
set_option linter.unusedVariables false
set_option linter.unusedSimpArgs false
namespace Go.Proofs.YtciblkmbkdhdiaaDoor.lin
open Go.RowKit

theorem setB_size : ByteArray.size ⟨#[59, 35, 10]⟩ = 3 := rfl
theorem setB_low (p : Nat) (hp : p < ByteArray.size ⟨#[59, 35, 10]⟩) : ((⟨#[59, 35, 10]⟩ : ByteArray)[p]'hp).toNat < 128 := by
  have h : ∀ p : Fin 3, ((⟨#[59, 35, 10]⟩ : ByteArray)[p.val]'(by rw [setB_size]; exact p.isLt)).toNat < 128 := by decide +kernel
  exact h ⟨p, by rw [setB_size] at hp; exact hp⟩

set_option maxHeartbeats 1000000 in
set_option maxRecDepth 100000 in
theorem rune_err (w : World) :
    Calls Tryd.prog 73 #[.string ⟨#[59, 35, 10]⟩, .int .i32 65533] w fun e w' => e = .returned (.int .i64 (-1)) ∧ Below w.heap.size w w' := by
  go_enter Tryd.func73, Tryd.ntmps73
  go_wp2
  go_loopg [] 3 (fun k wr => ∃ p : Nat, k = 3 - p ∧ Hid (wr.heap[w.heap.size]? = some (.stringIter ⟨#[59, 35, 10]⟩ p)) ∧ Below w.heap.size w wr)
  case atStart => exact ⟨0, rfl, World.iter_heap w _ 0, (Below.refl _ _).alloc (Nat.le_refl _) _⟩
  case round =>
    obtain ⟨p, hgk, HIT, hbel⟩ := hrel
    have HGK : Hid (gk = 3 - p) := hgk
    clear hgk
    by_cases hp : p < ByteArray.size ⟨#[59, 35, 10]⟩
    · have hlow := setB_low p hp
      have hp3 : p < 3 := hp
      have hit2 := Lib.iterAt_heap wr w.heap.size ⟨#[59, 35, 10]⟩ p (p + 1) HIT.out
      have hb2 := Lib.below_iterAt hbel (k := w.heap.size) (Nat.le_refl _) ⟨#[59, 35, 10]⟩ (p + 1)
      have hnx := fun ty => Lib.run_next_any_at (P := Tryd.prog) wr w.heap.size ⟨#[59, 35, 10]⟩ p ty HIT.out hp
      rw [decode_ascii _ p hp hlow] at hnx
      have HT2 : Hid ((wr.iterAt w.heap.size ⟨#[59, 35, 10]⟩ (p + 1)).heap[w.heap.size]? = some (.stringIter ⟨#[59, 35, 10]⟩ (p + 1))) := hit2
      have t1 : ((((⟨#[59, 35, 10]⟩ : ByteArray)[p]'hp).toNat : Int) == 65533) = false := by rw [beq_eq_false_iff_ne]; omega
      clear hit2 HIT hbel
      generalize hr : ((⟨#[59, 35, 10]⟩ : ByteArray)[p]'hp).toNat = r at *
      clear hr
      generalize hW : wr.iterAt w.heap.size ⟨#[59, 35, 10]⟩ (p + 1) = W at *
      go_wp2
      go_roundg (3 - (p + 1))
      case measure => have := HGK.out; omega
      case rel => exact ⟨p + 1, rfl, HT2, hb2⟩
    · have hnx := fun ty => Lib.run_next_end_at (P := Tryd.prog) wr w.heap.size ⟨#[59, 35, 10]⟩ p ty HIT.out hp
      clear HIT
      go_wp2
      go_ret
      exact ⟨rfl, hbel⟩

/-- Whether a text has one of the three. -/
def badB (l : List UInt8) : Bool := l.any fun b => b == 59 || b == 35 || b == 10
theorem decode_ok (s : ByteArray) (p : Nat) (hp : p < s.size) : (Utf8.decode s p).1 ≤ 1114111 ∧ ((Utf8.decode s p).1 < 55296 ∨ 57343 < (Utf8.decode s p).1) := by
  have hb : ∀ x : UInt8, x.toNat < 256 := fun x => x.toNat_lt
  have v : ∀ x : Nat, Utf8.valid (x : Int) = true → x ≤ 1114111 ∧ (x < 55296 ∨ 57343 < x) := by
    intro x h
    unfold Utf8.valid at h
    simp at h
    omega
  generalize hd : Utf8.decode s p = d
  unfold Utf8.decode at hd
  simp only [] at hd
  have e : Utf8.runeError = 65533 := rfl
  have h0 := hb (s.get! (p + 0))
  have h1 := hb (s.get! (p + 1))
  repeat' split at hd
  all_goals subst hd
  all_goals simp only [Bool.and_eq_true, decide_eq_true_eq] at *
  all_goals first | omega | (rename_i q; exact v _ q.2)

/-- What strings.IndexRune answers of any rune that a text holds. -/
theorem rune_any (c : Nat) (w : World) (hm : c ≤ 1114111) (hv : c < 55296 ∨ 57343 < c) :
    Calls Tryd.prog 73 #[.string ⟨#[59, 35, 10]⟩, .int .i32 c] w fun e w' => ∃ k, e = .returned (.int .i64 k) ∧ (0 ≤ k ↔ (c = 59 ∨ c = 35 ∨ c = 10)) ∧ Below w.heap.size w w' := by
  rcases Nat.lt_or_ge c 128 with h | h
  · exact rune_low c w h
  · by_cases h3 : c = 65533
    · subst h3
      refine (rune_err w).mono ?_
      rintro e w' ⟨rfl, hb⟩
      exact ⟨-1, rfl, ⟨fun h => by omega, fun h => by omega⟩, hb⟩
    · refine (rune_high c w h hm h3 hv).mono ?_
      rintro e w' ⟨rfl, hb⟩
      exact ⟨-1, rfl, ⟨fun h => by omega, fun h => by omega⟩, hb⟩

theorem badB_true (s : ByteArray) (p : Nat) (hp : p < s.size) (h : at8 s p = 59 ∨ at8 s p = 35 ∨ at8 s p = 10) : badB s.data.toList = true := by
  unfold badB
  rw [List.any_eq_true]
  refine ⟨s[p]'hp, ?_, ?_⟩
  · have hl : p < s.data.toList.length := by rw [size_list]; exact hp
    exact (show s.data.toList[p]'hl = s[p]'hp from rfl) ▸ List.getElem_mem hl
  · rw [at8_eq s p hp] at h
    have e : ∀ n : Nat, n < 256 → ((s[p]'hp).toNat : Int) = n → s[p]'hp = UInt8.ofNat n := fun n hn he => by
      apply UInt8.toNat_inj.1
      rw [UInt8.toNat_ofNat']
      omega
    rcases h with h | h | h
    · rw [e 59 (by decide) h]; rfl
    · rw [e 35 (by decide) h]; rfl
    · rw [e 10 (by decide) h]; rfl
theorem badB_false (s : ByteArray) (h : ∀ j, j < s.size → ¬ (at8 s j = 59 ∨ at8 s j = 35 ∨ at8 s j = 10)) : badB s.data.toList = false := by
  cases hb : badB s.data.toList with
  | false => rfl
  | true =>
    exfalso
    unfold badB at hb
    rw [List.any_eq_true] at hb
    obtain ⟨x, hx, hq⟩ := hb
    obtain ⟨j, hj, hjx⟩ := List.getElem_of_mem hx
    have hj' : j < s.size := by rw [← size_list]; exact hj
    apply h j hj'
    rw [at8_eq s j hj']
    have : s[j]'hj' = x := hjx
    rw [this]
    simp at hq
    rcases hq with (rfl | rfl) | rfl
    · exact .inl rfl
    · exact .inr (.inl rfl)
    · exact .inr (.inr rfl)

set_option maxHeartbeats 1000000 in
set_option maxRecDepth 100000 in
theorem any_short (s : ByteArray) (w : World) (h8 : s.size ≤ 8) :
    Calls Tryd.prog 53 #[.string s, .string ⟨#[59, 35, 10]⟩] w fun e w' => ∃ k, e = .returned (.int .i64 k) ∧ (0 ≤ k ↔ badB s.data.toList = true) ∧ Below w.heap.size w w' := by
  have t8 : ¬ (8 : Int) < (s.size : Int) := by omega
  go_enter Tryd.func53, Tryd.ntmps53
  go_wp2
  go_loopg [] s.size (fun k wr => ∃ p : Nat, k = s.size - p ∧ Hid (∀ j, j < p → j < s.size → ¬ (at8 s j = 59 ∨ at8 s j = 35 ∨ at8 s j = 10)) ∧ Hid (wr.heap[w.heap.size]? = some (.stringIter s p)) ∧ Below w.heap.size w wr)
  case atStart => exact ⟨0, rfl, fun j h => absurd h (Nat.not_lt_zero _), World.iter_heap w _ 0, (Below.refl _ _).alloc (Nat.le_refl _) _⟩
  case round =>
    obtain ⟨p, hgk, HNB, HIT, hbel⟩ := hrel
    have HGK : Hid (gk = s.size - p) := hgk
    clear hgk
    by_cases hp : p < s.size
    · have he := at8_eq s p hp
      have hq1 : 1 ≤ (Utf8.decode s p).2 := by
        by_cases ha : (s[p]'hp).toNat < 128
        · rw [decode_ascii s p hp ha]; exact Nat.le_refl _
        · exact (decode_high s p hp (by omega)).2
      have hit2 := Lib.iterAt_heap wr w.heap.size s p (p + (Utf8.decode s p).2) HIT.out
      have hb2 := Lib.below_iterAt hbel (k := w.heap.size) (Nat.le_refl _) s (p + (Utf8.decode s p).2)
      have hnx := fun ty => Lib.run_next_any_at (P := Tryd.prog) wr w.heap.size s p ty HIT.out hp
      have HT2 : Hid ((wr.iterAt w.heap.size s (p + (Utf8.decode s p).2)).heap[w.heap.size]? = some (.stringIter s (p + (Utf8.decode s p).2))) := hit2
      obtain ⟨hm1, hm2⟩ := decode_ok s p hp
      have HHIT : Hid (((Utf8.decode s p).1 = 59 ∨ (Utf8.decode s p).1 = 35 ∨ (Utf8.decode s p).1 = 10) → badB s.data.toList = true) := by
        intro h
        have ha : (s[p]'hp).toNat < 128 := by
          rcases Nat.lt_or_ge (s[p]'hp).toNat 128 with h' | h'
          · exact h'
          · have := (decode_high s p hp h').1; omega
        rw [decode_ascii s p hp ha] at h
        exact badB_true s p hp (by rw [he]; simp only [] at h; omega)
      have HMISS : Hid (¬ ((Utf8.decode s p).1 = 59 ∨ (Utf8.decode s p).1 = 35 ∨ (Utf8.decode s p).1 = 10) → ∀ j, j < p + (Utf8.decode s p).2 → j < s.size → ¬ (at8 s j = 59 ∨ at8 s j = 35 ∨ at8 s j = 10)) := by
        intro h j h1 h2
        rcases Nat.lt_or_ge j p with h3 | h3
        · exact HNB.out j h3 h2
        · by_cases ha : (s[p]'hp).toNat < 128
          · rw [decode_ascii s p hp ha] at h h1
            simp only [] at h h1
            obtain rfl : j = p := by omega
            rw [he]; omega
          · rcases Nat.eq_or_lt_of_le h3 with rfl | h4
            · rw [he]; omega
            · have := decode_tail s p j h4 h1
              have e := get_at8 s j h2
              omega
      have RU := fun W => rune_any (Utf8.decode s p).1 W hm1 hm2
      clear hit2 HIT hbel he HNB
      generalize hr : (Utf8.decode s p).1 = r at *
      generalize hqq : (Utf8.decode s p).2 = q at *
      clear hr hqq
      generalize hW : wr.iterAt w.heap.size s (p + q) = W at *
      clear hW
      go_wp2_with fail
      refine (RU W).mono ?_
      rintro e w3 ⟨k, rfl, hk, b3⟩
      clear RU
      have b13 := hb2.trans (b3.mono hb2.size)
      have HT3 : Hid (w3.heap[w.heap.size]? = some (.stringIter s (p + q))) := (b3.block _ (Array.getElem?_eq_some_iff.1 HT2.out).1).trans HT2.out
      have HK : Hid (0 ≤ k ↔ (r = 59 ∨ r = 35 ∨ r = 10)) := hk
      clear hk HT2
      by_cases hk0 : (0 : Int) ≤ k
      · have HB : Hid (badB s.data.toList = true) := HHIT.out (HK.out.1 hk0)
        clear HHIT HMISS HK
        go_wp2
        try rw [Exit.noGoto_ret]
        go_ret
        exact ⟨_, rfl, ⟨fun _ => HB.out, fun _ => by omega⟩, b13⟩
      · have HM := HMISS.out (fun h => hk0 (HK.out.2 h))
        have HM2 : Hid (∀ j, j < p + q → j < s.size → ¬ (at8 s j = 59 ∨ at8 s j = 35 ∨ at8 s j = 10)) := HM
        clear HHIT HMISS HK HM
        go_wp2
        go_roundg (s.size - (p + q))
        case measure => have := HGK.out; omega
        case rel => exact ⟨p + q, rfl, HM2, HT3, b13⟩
    · have hnx := fun ty => Lib.run_next_end_at (P := Tryd.prog) wr w.heap.size s p ty HIT.out hp
      have HB : Hid (badB s.data.toList = false) := badB_false s (fun j hj => HNB.out j (by omega) hj)
      clear HIT HNB
      go_wp2
      try rw [Exit.noGoto_ret]
      go_ret
      exact ⟨-1, rfl, ⟨fun h => by omega, fun h => by rw [HB.out] at h; cases h⟩, hbel⟩

theorem indexAny_bad (l : List UInt8) : 0 ≤ Lib.indexAny l [59, 35, 10] ↔ badB l = true := by
  induction l with
  | nil => simp [Lib.indexAny, badB]
  | cons x l ih =>
    rw [Lib.indexAny]
    have hc : [59, 35, 10].contains x = (x == 59 || x == 35 || x == 10) := by simp [Bool.or_assoc]; rfl
    unfold badB at ih ⊢
    rw [List.any_cons, hc]
    have hge := Lib.indexAny_ge [59, 35, 10] l
    cases hx : (x == 59 || x == 35 || x == 10) with
    | true => simp
    | false =>
      simp only [Bool.false_or, Bool.false_eq_true, if_false]
      rw [← ih]
      split
      · rename_i h; have := eq_of_beq h; omega
      · rename_i h
        have : ¬ Lib.indexAny l [59, 35, 10] = -1 := fun e => h (by rw [e]; rfl)
        omega
theorem info256 : (Tryd.prog.info? 82).map (fun i => (i.zero, i.size)) = some (some (.agg (Array.replicate 256 (.bool false))), 256) := by kernel_rfl

theorem any_any (s : ByteArray) (w : World) (hs : s.size ≤ 1073741824) :
    Calls Tryd.prog 53 #[.string s, .string ⟨#[59, 35, 10]⟩] w fun e w' => ∃ k, e = .returned (.int .i64 k) ∧ (0 ≤ k ↔ badB s.data.toList = true) ∧ Below w.heap.size w w' := by
  rcases Nat.lt_or_ge 8 s.size with h | h
  · refine (Tryd.strings_IndexAny_long (zero_of_info info256).1 s ⟨#[59, 35, 10]⟩ w (by decide) h (by omega) (by decide) (ascii_of_all (by decide))).mono ?_
    rintro e w' ⟨rfl, rfl⟩
    exact ⟨_, rfl, indexAny_bad _, ((Below.refl _ w).alloc (Nat.le_refl _) _).alloc (by simp) _⟩
  · exact any_short s w h

theorem contains_any (s : ByteArray) (w : World) (hs : s.size ≤ 1073741824) :
    Calls Tryd.prog 42 #[.string s, .string ⟨#[59, 35, 10]⟩] w fun e w' => e = .returned (.bool (badB s.data.toList)) ∧ Below w.heap.size w w' := by
  have AN := any_any s w hs
  generalize badB s.data.toList = bb at *
  go_enter Tryd.func42, Tryd.ntmps42
  go_wp2_with fail
  refine AN.mono ?_
  rintro e w2 ⟨k, rfl, hk, hb⟩
  clear AN
  cases bb with
  | true =>
    have h0 : (0 : Int) ≤ k := hk.2 rfl
    clear hk
    go_wp2
    go_ret
    exact ⟨rfl, hb⟩
  | false =>
    have h0 : decide ((0 : Int) ≤ k) = false := by rw [decide_eq_false_iff_not]; exact fun h => by have := hk.1 h; cases this
    clear hk
    go_wp2
    go_ret
    exact ⟨rfl, hb⟩
end Go.Proofs.YtciblkmbkdhdiaaDoor.lin
