/- What strings.IndexAny answers of a text and the set of an equals sign and a colon: the first place of one of both. -/
import Derived.Test.YtnpnmhjhohhnjaaDoorNamRune
import Derived.Lib.AsciiSet
import Derived.Lib.Builder
set_option linter.unusedVariables false
set_option linter.unusedSimpArgs false
namespace Go.Proofs.YtnpnmhjhohhnjaaDoor.nam
open Go.RowKit lin

/-- Whether one of both stands at a place; the first such place. -/
def mk (s : ByteArray) (j : Nat) : Prop := at8 s j = 61 ∨ at8 s j = 58
def markI (s : ByteArray) : Int := Lib.indexAny s.data.toList [61, 58]
theorem mk_iff (s : ByteArray) (j : Nat) (h : j < s.size) : mk s j ↔ ([61, 58] : List UInt8).contains (s[j]'h) = true := by
  unfold mk
  rw [at8_eq s j h]
  have e : ∀ n : Nat, n < 256 → (((s[j]'h).toNat : Int) = n ↔ s[j]'h = UInt8.ofNat n) := fun n hn => by rw [u8_eq _ n hn]; omega
  rw [show (61 : Int) = ((61 : Nat) : Int) from rfl, show (58 : Int) = ((58 : Nat) : Int) from rfl, e 61 (by decide), e 58 (by decide)]
  simp
theorem noAny_of (s : ByteArray) (p : Nat) (h : ∀ j, j < p → j < s.size → ¬ mk s j) : Lib.NoAny s.data.toList [61, 58] p := fun j b hj hb => by
  have hl : j < s.data.toList.length := (List.getElem?_eq_some_iff.1 hb).1
  have hl' : j < s.size := by simpa using hl
  have hb2 : s[j]'hl' = b := (List.getElem?_eq_some_iff.1 hb).2
  cases hc : ([61, 58] : List UInt8).contains b with
  | false => rfl
  | true => exact absurd ((mk_iff s j hl').2 (by rw [hb2]; exact hc)) (h j hj hl')
theorem mark_hit (s : ByteArray) (p : Nat) (hp : p < s.size) (h : ∀ j, j < p → j < s.size → ¬ mk s j) (hm : mk s p) : markI s = p :=
  Lib.indexAny_hit (noAny_of s p h) (List.getElem?_eq_getElem (by simpa using hp)) ((mk_iff s p hp).1 hm)
theorem mark_none (s : ByteArray) (h : ∀ j, j < s.size → ¬ mk s j) : markI s = -1 :=
  Lib.indexAny_none (by rw [show s.data.toList.length = s.size from by simp]; exact noAny_of s s.size (fun j hj _ => h j hj))
/-- It is the first one, or there is none. -/
theorem mark_cases (s : ByteArray) : (markI s = -1 ∧ ∀ j, j < s.size → ¬ mk s j) ∨ ∃ p : Nat, markI s = p ∧ p < s.size ∧ mk s p ∧ ∀ j, j < p → j < s.size → ¬ mk s j := by
  have step : ∀ k, k ≤ s.size → (∀ j, j < k → j < s.size → ¬ mk s j) ∨ ∃ p : Nat, p < s.size ∧ mk s p ∧ ∀ j, j < p → j < s.size → ¬ mk s j := by
    intro k
    induction k with
    | zero => intro _; exact .inl (fun j h => absurd h (Nat.not_lt_zero _))
    | succ k ih =>
      intro hk
      rcases ih (by omega) with h | h
      · by_cases hm : mk s k
        · exact .inr ⟨k, by omega, hm, h⟩
        · refine .inl (fun j hj hs => ?_)
          rcases Nat.lt_or_ge j k with h' | h'
          · exact h j h' hs
          · obtain rfl : j = k := by omega
            exact hm
      · exact .inr h
  rcases step s.size (Nat.le_refl _) with h | ⟨p, h1, h2, h3⟩
  · exact .inl ⟨mark_none s (fun j hj => h j hj hj), fun j hj => h j hj hj⟩
  · exact .inr ⟨p, mark_hit s p h1 h3 h2, h1, h2, h3⟩

theorem setB_size : ByteArray.size ⟨#[61, 58]⟩ = 2 := rfl
theorem setB_low (p : Nat) (hp : p < ByteArray.size ⟨#[61, 58]⟩) : ((⟨#[61, 58]⟩ : ByteArray)[p]'hp).toNat < 128 := by
  have h : ∀ p : Fin 2, ((⟨#[61, 58]⟩ : ByteArray)[p.val]'(by rw [setB_size]; exact p.isLt)).toNat < 128 := by decide +kernel
  exact h ⟨p, by rw [setB_size] at hp; exact hp⟩

set_option maxHeartbeats 1000000 in
set_option maxRecDepth 100000 in
theorem rune_err (w : World) :
    Calls Tryd.prog 41 #[.string ⟨#[61, 58]⟩, .int .i32 65533] w fun e w' => e = .returned (.int .i64 (-1)) ∧ Below w.heap.size w w' := by
  go_enter Tryd.func41, Tryd.ntmps41
  go_wp2
  go_loopg [] 2 (fun k wr => ∃ p : Nat, k = 2 - p ∧ Hid (wr.heap[w.heap.size]? = some (.stringIter ⟨#[61, 58]⟩ p)) ∧ Below w.heap.size w wr)
  case atStart => exact ⟨0, rfl, World.iter_heap w _ 0, (Below.refl _ _).alloc (Nat.le_refl _) _⟩
  case round =>
    obtain ⟨p, hgk, HIT, hbel⟩ := hrel
    have HGK : Hid (gk = 2 - p) := hgk
    clear hgk
    by_cases hp : p < ByteArray.size ⟨#[61, 58]⟩
    · have hlow := setB_low p hp
      have hp3 : p < 2 := hp
      have hit2 := Lib.iterAt_heap wr w.heap.size ⟨#[61, 58]⟩ p (p + 1) HIT.out
      have hb2 := Lib.below_iterAt hbel (k := w.heap.size) (Nat.le_refl _) ⟨#[61, 58]⟩ (p + 1)
      have hnx := fun ty => Lib.run_next_any_at (P := Tryd.prog) wr w.heap.size ⟨#[61, 58]⟩ p ty HIT.out hp
      rw [decode_ascii _ p hp hlow] at hnx
      have HT2 : Hid ((wr.iterAt w.heap.size ⟨#[61, 58]⟩ (p + 1)).heap[w.heap.size]? = some (.stringIter ⟨#[61, 58]⟩ (p + 1))) := hit2
      have t1 : ((((⟨#[61, 58]⟩ : ByteArray)[p]'hp).toNat : Int) == 65533) = false := by rw [beq_eq_false_iff_ne]; omega
      clear hit2 HIT hbel
      generalize hr : ((⟨#[61, 58]⟩ : ByteArray)[p]'hp).toNat = r at *
      clear hr
      generalize hW : wr.iterAt w.heap.size ⟨#[61, 58]⟩ (p + 1) = W at *
      go_wp2
      go_roundg (2 - (p + 1))
      case measure => have := HGK.out; omega
      case rel => exact ⟨p + 1, rfl, HT2, hb2⟩
    · have hnx := fun ty => Lib.run_next_end_at (P := Tryd.prog) wr w.heap.size ⟨#[61, 58]⟩ p ty HIT.out hp
      clear HIT
      go_wp2
      go_ret
      exact ⟨rfl, hbel⟩

theorem decode_ok (s : ByteArray) (p : Nat) (hp : p < s.size) : (Utf8.decode s p).1 ≤ 1114111 ∧ ((Utf8.decode s p).1 < 55296 ∨ 57343 < (Utf8.decode s p).1) := by
  have hb : ∀ x : UInt8, x.toNat < 256 := fun x => x.toNat_lt
  have v : ∀ x : Nat, Utf8.valid (x : Int) = true → x ≤ 1114111 ∧ (x < 55296 ∨ 57343 < x) := by
    intro x h
    unfold Utf8.valid at h
    simp at h
    omega
  generalize hd : Utf8.decode s p = d
  unfold Utf8.decode at hd
  simp only [] at hd
  have e : Utf8.runeError = 65533 := rfl
  have h0 := hb (s.get! (p + 0))
  have h1 := hb (s.get! (p + 1))
  repeat' split at hd
  all_goals subst hd
  all_goals simp only [Bool.and_eq_true, decide_eq_true_eq] at *
  all_goals first | omega | (rename_i q; exact v _ q.2)

/-- What strings.IndexRune answers of any rune that a text holds. -/
theorem rune_any (c : Nat) (w : World) (hm : c ≤ 1114111) (hv : c < 55296 ∨ 57343 < c) :
    Calls Tryd.prog 41 #[.string ⟨#[61, 58]⟩, .int .i32 c] w fun e w' => ∃ k, e = .returned (.int .i64 k) ∧ (0 ≤ k ↔ (c = 61 ∨ c = 58)) ∧ Below w.heap.size w w' := by
  rcases Nat.lt_or_ge c 128 with h | h
  · exact rune_low c w h
  · by_cases h3 : c = 65533
    · subst h3
      refine (rune_err w).mono ?_
      rintro e w' ⟨rfl, hb⟩
      exact ⟨-1, rfl, ⟨fun h => by omega, fun h => by omega⟩, hb⟩
    · refine (rune_high c w h hm h3 hv).mono ?_
      rintro e w' ⟨rfl, hb⟩
      exact ⟨-1, rfl, ⟨fun h => by omega, fun h => by omega⟩, hb⟩

set_option maxHeartbeats 1000000 in
set_option maxRecDepth 100000 in
theorem any_short (s : ByteArray) (w : World) (h8 : s.size ≤ 8) :
    Calls Tryd.prog 24 #[.string s, .string ⟨#[61, 58]⟩] w fun e w' => e = .returned (.int .i64 (markI s)) ∧ Below w.heap.size w w' := by
  have t8 : ¬ (8 : Int) < (s.size : Int) := by omega
  go_enter Tryd.func24, Tryd.ntmps24
  go_wp2
  go_loopg [] s.size (fun k wr => ∃ p : Nat, k = s.size - p ∧ Hid (∀ j, j < p → j < s.size → ¬ mk s j) ∧ Hid (wr.heap[w.heap.size]? = some (.stringIter s p)) ∧ Below w.heap.size w wr)
  case atStart => exact ⟨0, rfl, fun j h => absurd h (Nat.not_lt_zero _), World.iter_heap w _ 0, (Below.refl _ _).alloc (Nat.le_refl _) _⟩
  case round =>
    obtain ⟨p, hgk, HNB, HIT, hbel⟩ := hrel
    have HGK : Hid (gk = s.size - p) := hgk
    clear hgk
    by_cases hp : p < s.size
    · have he := at8_eq s p hp
      have hq1 : 1 ≤ (Utf8.decode s p).2 := by
        by_cases ha : (s[p]'hp).toNat < 128
        · rw [decode_ascii s p hp ha]; exact Nat.le_refl _
        · exact (decode_high s p hp (by omega)).2
      have hit2 := Lib.iterAt_heap wr w.heap.size s p (p + (Utf8.decode s p).2) HIT.out
      have hb2 := Lib.below_iterAt hbel (k := w.heap.size) (Nat.le_refl _) s (p + (Utf8.decode s p).2)
      have hnx := fun ty => Lib.run_next_any_at (P := Tryd.prog) wr w.heap.size s p ty HIT.out hp
      have HT2 : Hid ((wr.iterAt w.heap.size s (p + (Utf8.decode s p).2)).heap[w.heap.size]? = some (.stringIter s (p + (Utf8.decode s p).2))) := hit2
      obtain ⟨hm1, hm2⟩ := decode_ok s p hp
      have HHIT : Hid (((Utf8.decode s p).1 = 61 ∨ (Utf8.decode s p).1 = 58) → markI s = p) := by
        intro h
        have ha : (s[p]'hp).toNat < 128 := by
          rcases Nat.lt_or_ge (s[p]'hp).toNat 128 with h' | h'
          · exact h'
          · have := (decode_high s p hp h').1; omega
        rw [decode_ascii s p hp ha] at h
        exact mark_hit s p hp HNB.out (by unfold mk; rw [he]; simp only [] at h; omega)
      have HMISS : Hid (¬ ((Utf8.decode s p).1 = 61 ∨ (Utf8.decode s p).1 = 58) → ∀ j, j < p + (Utf8.decode s p).2 → j < s.size → ¬ mk s j) := by
        intro h j h1 h2
        rcases Nat.lt_or_ge j p with h3 | h3
        · exact HNB.out j h3 h2
        · by_cases ha : (s[p]'hp).toNat < 128
          · rw [decode_ascii s p hp ha] at h h1
            simp only [] at h h1
            obtain rfl : j = p := by omega
            unfold mk; rw [he]; omega
          · rcases Nat.eq_or_lt_of_le h3 with rfl | h4
            · unfold mk; rw [he]; omega
            · have := decode_tail s p j h4 h1
              have e := get_at8 s j h2
              unfold mk
              omega
      have RU := fun W => rune_any (Utf8.decode s p).1 W hm1 hm2
      clear hit2 HIT hbel he HNB
      generalize hr : (Utf8.decode s p).1 = r at *
      generalize hqq : (Utf8.decode s p).2 = q at *
      clear hr hqq
      generalize hW : wr.iterAt w.heap.size s (p + q) = W at *
      clear hW
      go_wp2_with fail
      refine (RU W).mono ?_
      rintro e w3 ⟨k, rfl, hk, b3⟩
      clear RU
      have b13 := hb2.trans (b3.mono hb2.size)
      have HT3 : Hid (w3.heap[w.heap.size]? = some (.stringIter s (p + q))) := (b3.block _ (Array.getElem?_eq_some_iff.1 HT2.out).1).trans HT2.out
      have HK : Hid (0 ≤ k ↔ (r = 61 ∨ r = 58)) := hk
      clear hk HT2
      by_cases hk0 : (0 : Int) ≤ k
      · have HB : Hid (markI s = p) := HHIT.out (HK.out.1 hk0)
        clear HHIT HMISS HK
        go_wp2
        try rw [Exit.noGoto_ret]
        go_ret
        exact ⟨by rw [HB.out]; rfl, b13⟩
      · have HM := HMISS.out (fun h => hk0 (HK.out.2 h))
        have HM2 : Hid (∀ j, j < p + q → j < s.size → ¬ mk s j) := HM
        clear HHIT HMISS HK HM
        go_wp2
        go_roundg (s.size - (p + q))
        case measure => have := HGK.out; omega
        case rel => exact ⟨p + q, rfl, HM2, HT3, b13⟩
    · have hnx := fun ty => Lib.run_next_end_at (P := Tryd.prog) wr w.heap.size s p ty HIT.out hp
      have HB : Hid (markI s = -1) := mark_none s (fun j hj => HNB.out j (by omega) hj)
      clear HIT HNB
      go_wp2
      try rw [Exit.noGoto_ret]
      go_ret
      exact ⟨by rw [HB.out]; rfl, hbel⟩

theorem info256 : (Tryd.prog.info? 72).map (fun i => (i.zero, i.size)) = some (some (.agg (Array.replicate 256 (.bool false))), 256) := by kernel_rfl
theorem size256 : (Tryd.prog.info? 72).map (·.size) = some 256 := by kernel_rfl

set_option maxHeartbeats 8000000 in
set_option maxRecDepth 1000000 in
theorem any_long (s : ByteArray) (w : World) (h8 : 8 < s.size) (hs : s.size ≤ 140737488355328) :
    Calls Tryd.prog 24 #[.string s, .string ⟨#[61, 58]⟩] w fun e w' => e = .returned (.int .i64 (markI s)) ∧ Below w.heap.size w w' := by
  have MS := Tryd.strings_makeASCIISet (zero_of_info info256).1 ⟨#[61, 58]⟩ w (by decide) (ascii_of_all (by decide))
  have t8 : (8 : Int) < (s.size : Int) := by omega
  have SH := Tryd.strings_shouldUseASCIISet (s.size : Int) w
  obtain ⟨C, hC⟩ : ∃ C, Lib.setCells (⟨#[61, 58]⟩ : ByteArray).data.toList = C := ⟨_, rfl⟩
  have SC : (storeCells ⟨w.heap.size + 1, 0, none⟩ C.toList 0).run Tryd.prog ((w.alloc (.cells C 72)).alloc (.cells (Array.replicate 256 (.bool false)) 72)) = .ok () ((w.alloc (.cells C 72)).alloc (.cells C 72)) := by
    have := run_storeCells_new (P := Tryd.prog) (w.alloc (.cells C 72)) 72 (Array.replicate 256 (.bool false)) C (by rw [← hC, Lib.setCells_size]; exact size256) (by rw [← hC, Lib.setCells_size, Array.size_replicate]) (by rw [← hC]; exact Lib.setCells_one _)
    simpa using this
  rw [show Array.replicate 256 (Value.bool false) = Tryd.zeroCells72 from by kernel_rfl] at SC
  have HCE : Hid (∀ (i : Nat) (h : i < s.size), ((w.alloc (.cells C 72)).alloc (.cells C 72)).cell? ⟨w.heap.size + 1, (s[i]'h).toNat, none⟩ = some (.bool (([61, 58] : List UInt8).contains (s[i]'h)))) := fun i h => by
    rw [World.cell?_alloc_at _ _ _ _ (by simp), ← hC, Lib.setCells_at]
  have HBE : Hid (Below w.heap.size w ((w.alloc (.cells C 72)).alloc (.cells C 72))) := ((Below.refl _ w).alloc (Nat.le_refl _) _).alloc (by simp) _
  have HMK : Hid (∀ (i : Nat) (h : i < s.size), mk s i ↔ ([61, 58] : List UInt8).contains (s[i]'h) = true) := mk_iff s
  have hcz : C.size = 256 := by rw [← hC]; exact Lib.setCells_size _
  rw [hC] at MS
  clear hC
  go_enter Tryd.func24, Tryd.ntmps24
  go_wp2_with fail
  refine SH.mono ?_
  rintro e w1 ⟨rfl, hw1⟩
  rw [hw1]
  clear hw1
  go_wp2_with fail
  refine MS.mono ?_
  rintro e w2 ⟨rfl, hw2⟩
  rw [hw2]
  clear hw2
  go_wp2
  clear MS SC SH
  generalize hW : (w.alloc (.cells C 72)).alloc (.cells C 72) = W at *
  go_loopw [8] (fun i wz => ∃ p : Nat, p ≤ s.size ∧ i = .int .i64 p ∧ Hid (∀ j, j < p → j < s.size → ¬ mk s j) ∧ wz = W) (fun i _ => s.size - (RowKit.intOf i).toNat)
  case atStart => exact ⟨0, Nat.zero_le _, rfl, fun j h => absurd h (Nat.not_lt_zero _), rfl⟩
  case round =>
    obtain ⟨p, hp, rfl, HN, hz⟩ := hrel
    subst hz
    by_cases hlt : p < s.size
    · have hlt' : (p : Int) < (s.size : Int) := by omega
      have hm := HMK.out p hlt
      have hcell := HCE.out p hlt
      obtain ⟨x, hx⟩ : ∃ x : UInt8, s[p]'hlt = x := ⟨_, rfl⟩
      rw [hx] at hm hcell
      have hr0 : ((s[p]'hlt).toNat : Int) = (x.toNat : Int) := by rw [hx]
      clear hx
      cases hin : ([61, 58] : List UInt8).contains x with
      | false =>
        rw [hin] at hm hcell
        have HN2 : Hid (∀ j, j < p + 1 → j < s.size → ¬ mk s j) := fun j h1 h2 => by
          rcases Nat.lt_or_ge j p with h3 | h3
          · exact HN.out j h3 h2
          · obtain rfl : j = p := by omega
            exact fun h => by have := hm.1 h; cases this
        have CO := Tryd.asciiSet_contains (w.heap.size + 1) x false wr hcell
        clear hm hcell hin HN
        go_wp2_with fail
        refine CO.mono ?_
        rintro e w2 ⟨rfl, hw2⟩
        subst hw2
        go_wp2
        exact ⟨⟨p + 1, by omega, by go_num, HN2, by trivial⟩, by simp [intOf]; omega⟩
      | true =>
        rw [hin] at hm hcell
        have HM : Hid (markI s = p) := mark_hit s p hlt HN.out (hm.2 rfl)
        have CO := Tryd.asciiSet_contains (w.heap.size + 1) x true wr hcell
        clear hm hcell hin HN
        go_wp2_with fail
        refine CO.mono ?_
        rintro e w2 ⟨rfl, hw2⟩
        subst hw2
        go_wp2
        go_ret
        exact ⟨by rw [HM.out]; rfl, HBE.out⟩
    · have hge : ¬ (p : Int) < (s.size : Int) := by omega
      have HM : Hid (markI s = -1) := mark_none s (fun j hj => HN.out j (by omega) hj)
      go_wp2
      go_ret
      exact ⟨by rw [HM.out]; rfl, HBE.out⟩

theorem any_any (s : ByteArray) (w : World) (hs : s.size ≤ 140737488355328) :
    Calls Tryd.prog 24 #[.string s, .string ⟨#[61, 58]⟩] w fun e w' => e = .returned (.int .i64 (markI s)) ∧ Below w.heap.size w w' := by
  rcases Nat.lt_or_ge 8 s.size with h | h
  · exact any_long s w h hs
  · exact any_short s w h
end Go.Proofs.YtnpnmhjhohhnjaaDoor.nam
