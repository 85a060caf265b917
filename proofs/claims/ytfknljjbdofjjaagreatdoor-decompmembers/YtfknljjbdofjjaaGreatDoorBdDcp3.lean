/- Texts that the proof leans on, one behind the other. -/
import Derived.Test.YtfknljjbdofjjaaGreatDoorBdDcp2
import Derived.Test.YtfknljjbdofjjaaGreatDoorBdPrp9

section
/- DecompFull, DecompEnds, DecompHangul: the walks. -/
set_option linter.unusedVariables false
set_option linter.unusedSimpArgs false
namespace Go.Proofs.YtfknljjbdofjjaaGreatDoor.dcp
open Go.RowKit Go.Maps lin prp


theorem awake_full : fullL 7785 = [115, 803, 775] := by decide +kernel
set_option maxRecDepth 1000000 in
theorem awake_any (w : World) (E : Env w) : Calls Tryz.prog 14 #[] w fun e w' => e = .returned (.bool true) ∧ Below w.heap.size w w' := by
  have C := load_any w E
  clear E
  go_enter Tryz.func14, Tryz.ntmps14
  go_wp2_with fail
  refine C.mono ?_
  rintro e w1 ⟨t, rfl, ht, b1⟩
  clear C
  have C := full_t t 7785 w1 ht (by unfold okI; decide)
  rw [awake_full] at C
  clear ht
  go_wp2_with fail
  refine C.mono ?_
  rintro e w3 ⟨v, rfl, ho, b3⟩
  clear C
  have hv := ho.iv
  obtain ⟨a, c, rfl, _⟩ := id hv
  have W3b := (Below.refl w3.heap.size w3).alloc (Nat.le_refl _) (.cells #[.int .i64 115, .int .i64 803, .int .i64 775] 3)
  have hv2 : IV (w3.alloc (.cells #[.int .i64 115, .int .i64 803, .int .i64 775] 3)) (.slice (some ⟨w3.heap.size, 0, none⟩) 3 3) [115, 803, 775] :=
    IOwn.iv (base := 0) (World.ownsRow_lit (base := 0) (e := 3) (size := 1) w3 #[.int .i64 115, .int .i64 803, .int .i64 775] 3 (Nat.zero_le _) (by unfold maxLen; omega) rfl)
  have D := iequal_any _ _ [115, 803, 775] _ (hv.below W3b) hv2 (by decide)
  rw [show ([115, 803, 775] : List Int).length = 3 from rfl] at D
  have HB : Hid (Below w.heap.size w (w3.alloc (.cells #[.int .i64 115, .int .i64 803, .int .i64 775] 3))) := b1.trans ((b3.trans (W3b.mono b3.size)).mono b1.size)
  clear hv hv2 ho W3b b1 b3
  simp only [List.length_cons, List.length_nil, Nat.zero_add, Nat.reduceAdd] at *
  go_wp2_with fail
  refine D.mono ?_
  rintro e w4 ⟨rfl, b4⟩
  clear D
  go_wp2
  go_ret
  exact ⟨rfl, HB.out.trans (b4.mono HB.out.size)⟩
theorem full_oks (r : Int) (hr : okI r) : ∀ x ∈ fullL r, okI x := by
  intro x hx
  by_cases h : dp r = []
  · rw [full_leaf h] at hx; simp at hx; subst hx; exact hr
  · rw [full_node h] at hx
    obtain ⟨p, hp, hx⟩ := List.mem_flatMap.1 hx
    by_cases h2 : dp p = []
    · rw [full_leaf h2] at hx; simp at hx; subst hx; exact dp_ok r x hp
    · rw [full_node h2] at hx
      obtain ⟨q, hq, hx⟩ := List.mem_flatMap.1 hx
      rw [full_leaf (deep r p hp q hq)] at hx
      simp at hx
      subst hx
      exact dp_ok p x hq
set_option maxHeartbeats 1000000 in
set_option maxRecDepth 1000000 in
theorem ends_walk (r : Int) (w : World) (hr : okI r) (E : Env w) : Calls Tryz.prog 5 #[.int .i64 r] w fun e w' => e = .returned (.bool true) ∧ Below w.heap.size w w' := by
  have C := load_any w E
  have HR : Hid (okI r) := hr
  clear E hr
  go_enter Tryz.func5, Tryz.ntmps5
  go_wp2_with fail
  refine C.mono ?_
  rintro e w1 ⟨t, rfl, ht, b1⟩
  clear C
  have C := full_t t r w1 ht HR.out
  have HT : Hid (Tabs w1 t) := ht
  clear ht
  go_wp2_with fail
  refine C.mono ?_
  rintro e w2 ⟨v, rfl, ho, b2⟩
  clear C
  obtain ⟨a, c, rfl, hcl⟩ := ho.iv
  have hpos := full_pos r
  obtain ⟨pb, po, rfl, hpc⟩ := hcl hpos
  have HC : Hid (∀ k, k < (fullL r).length → ∃ p, p ∈ fullL r ∧ w2.cell? ⟨pb, po + k, none⟩ = some (.int .i64 p)) := fun k hk => ⟨(fullL r)[k], List.getElem_mem hk, by rw [hpc k hk, List.getD_eq_getElem?_getD, List.getElem?_eq_getElem hk]; rfl⟩
  have HB2 : Hid (Below w.heap.size w w2) := b1.trans (b2.mono b1.size)
  have HT2 : Hid (Tabs w2 t) := HT.out.below b2
  have hl9 := full_len r
  have HEN : Hid (∀ p ∈ fullL r, fullL p = [p] ∧ okI p) := fun p hp => ⟨full_end r p hp, full_oks r HR.out p hp⟩
  clear ho hcl hpc b1 b2 HT
  generalize fullL r = FR at *
  generalize hn : FR.length = n at *
  clear hn
  have hgt : (n : Int) > 0 := by omega
  have hgt' : (0 : Int) < (n : Int) := by omega
  go_wp2
  go_loopw [13] (fun i wr => ∃ k : Nat, k ≤ n ∧ i = .int .i64 k ∧ Hid (Below w2.heap.size w2 wr)) (fun i _ => n - (RowKit.intOf i).toNat)
  case atStart => exact ⟨0, Nat.zero_le _, rfl, Below.refl _ _⟩
  case round =>
    obtain ⟨k, hk, rfl, HB⟩ := hrel
    by_cases hlt : k < n
    · have hlt' : (k : Int) < (n : Int) := by omega
      obtain ⟨p, hpm, hc0⟩ := HC.out k hlt
      have hc1 := cell_below HB.out hc0
      have C := full_t t p wr (HT2.out.below HB.out) (HEN.out p hpm).2
      rw [(HEN.out p hpm).1] at C
      clear hpm hc0
      go_wp2_with fail
      refine C.mono ?_
      rintro e w3 ⟨v, rfl, ho, b3⟩
      clear C
      have hv := ho.iv
      obtain ⟨a, c, rfl, _⟩ := id hv
      have W3b := (Below.refl w3.heap.size w3).alloc (Nat.le_refl _) (.cells #[.int .i64 p] 3)
      have hv2 : IV (w3.alloc (.cells #[.int .i64 p] 3)) (.slice (some ⟨w3.heap.size, 0, none⟩) 1 1) [p] :=
        IOwn.iv (base := 0) (World.ownsRow_lit (base := 0) (e := 3) (size := 1) w3 #[.int .i64 p] 1 (Nat.zero_le _) (by unfold maxLen; omega) rfl)
      have D := iequal_any _ _ [p] _ (hv.below W3b) hv2 (by simp)
      rw [show ([p] : List Int).length = 1 from rfl] at D
      have HB3 : Hid (Below w2.heap.size w2 (w3.alloc (.cells #[.int .i64 p] 3))) := HB.out.trans ((b3.trans (W3b.mono b3.size)).mono HB.out.size)
      clear hv hv2 ho W3b b3
      simp only [List.length_cons, List.length_nil, Nat.zero_add, Nat.reduceAdd] at *
      go_wp2_with fail
      refine D.mono ?_
      rintro e w4 ⟨rfl, b4⟩
      have HB4 : Hid (Below w2.heap.size w2 w4) := HB3.out.trans (b4.mono HB3.out.size)
      clear D b4
      go_wp2
      go_roundw
      case rel => exact ⟨k + 1, by omega, by go_num, HB4⟩
      case measure => simp [RowKit.intOf]; omega
    · have hlt' : ¬ (k : Int) < (n : Int) := by omega
      go_wp2
      go_ret
      exact ⟨rfl, HB2.out.trans (HB.out.mono HB2.out.size)⟩
theorem full_syl {r : Int} (hs : 44032 ≤ r ∧ r ≤ 55203) : fullL r = sylL r := by
  have hne : dp r ≠ [] := by rw [dp_syl hs]; unfold sylL; split <;> simp
  rw [full_node hne, dp_syl hs]
  have : ∀ l : List Int, (∀ p ∈ l, fullL p = [p]) → l.flatMap fullL = l := by
    intro l
    induction l with
    | nil => intro _; rfl
    | cons x l ih => intro hl; rw [List.flatMap_cons, ih (fun q hq => hl q (by simp [hq])), hl x (by simp)]; rfl
  exact this _ fun p hp => full_leaf (dp_jamo (syl_jamo hs p hp))
set_option maxHeartbeats 1000000 in
set_option maxRecDepth 1000000 in
theorem full_walk (v : Value) (l : List Int) (w : World) (h : ArgN w v l) (E : Env w) : Calls Tryz.prog 3 #[v] w fun e w' => e = .returned (.bool true) ∧ Below w.heap.size w w' := by
  have HE : Hid (Env w) := E
  have C := load_any w E
  obtain ⟨ao, cap, rfl, hcells, hok, hlen⟩ := h
  have HC : Hid (∀ (k : Nat), k < l.length → ∃ r b o, ao = some ⟨b, o, none⟩ ∧ w.cell? ⟨b, o + k, none⟩ = some (.int .i64 r) ∧ okI r) := fun k hk => by
    rcases hcells with h0 | ⟨b, o, e, hc⟩
    · omega
    · exact ⟨l[k], b, o, e, hc k _ (List.getElem?_eq_getElem hk), hok _ (List.getElem_mem hk)⟩
  clear hcells hok E
  generalize l.length = nl at *
  have HAW : Hid (∀ W, Below w.heap.size w W → Calls Tryz.prog 14 #[] W fun e w' => e = .returned (.bool true) ∧ Below W.heap.size W w') := fun W hb => awake_any W (HE.out.below hb)
  go_enter Tryz.func3, Tryz.ntmps3
  go_wp2_with fail
  refine C.mono ?_
  rintro e w1 ⟨t, rfl, ht, b1⟩
  clear C
  have HT1 : Hid (Tabs w1 t) := ht
  clear ht
  have C := rload_any w1
  go_wp2_with fail
  refine C.mono ?_
  rintro e w2 ⟨u, rfl, hu, b2⟩
  clear C
  have HT2 : Hid (Tabs w2 t) := HT1.out.below b2
  have HU2 : Hid (RTabs w2 u) := hu
  have HB2 : Hid (Below w.heap.size w w2) := b1.trans (b2.mono b1.size)
  clear hu b1 b2 HT1
  go_wp2
  go_loopw [11] (fun i wr => ∃ k : Nat, k ≤ nl ∧ i = .int .i64 k ∧ Hid (Tabs wr t) ∧ Hid (RTabs wr u) ∧ Hid (Below w.heap.size w wr)) (fun i _ => nl - (RowKit.intOf i).toNat)
  case atStart => exact ⟨0, Nat.zero_le _, rfl, HT2, HU2, HB2⟩
  case round =>
    clear HT2 HU2 HB2
    obtain ⟨k, hk, rfl, HT0, HU0, HB0⟩ := hrel
    by_cases hlt : k < nl
    · have hlt' : (k : Int) < (nl : Int) := by omega
      obtain ⟨r, b, o, rfl, hc0, hr⟩ := HC.out k hlt
      have hc := cell_below HB0.out hc0
      have HR : Hid (okI r) := hr
      clear hr hc0
      by_cases h60 : 60 < k
      · have h60' : (60 : Int) < (k : Int) := by omega
        have C := HAW.out wr HB0.out
        go_wp2_with fail
        refine C.mono ?_
        rintro e w9 ⟨rfl, b9⟩
        clear C
        go_wp2
        go_ret
        exact ⟨rfl, HB0.out.trans (b9.mono HB0.out.size)⟩
      · have h60' : ¬ (60 : Int) < (k : Int) := by omega
        have C := full_t t r wr HT0.out HR.out
        have C2 : Hid (∀ W, RTabs W u → Calls Tryz.prog 13 #[.pointer (some ⟨u, 0, none⟩), .int .i64 r] W fun e w' => ∃ v, e = .returned v ∧ IOwn w' W.heap.size v (fullL r) ∧ Below W.heap.size W w') := fun W hW => rfull_any u r W hW
        have hl9 := full_len r
        generalize fullL r = FR at *
        go_wp2_with fail
        refine C.mono ?_
        rintro e x1 ⟨v1, rfl, ho1, b1⟩
        clear C
        have C := C2.out x1 (HU0.out.below b1)
        have HV1 : Hid (IV x1 v1 FR) := ho1.iv
        obtain ⟨a1, c1, rfl, _⟩ := ho1.iv
        have HB1 : Hid (Below wr.heap.size wr x1) := b1
        clear ho1 b1
        generalize hfn : FR.length = fn at *
        go_wp2_with fail
        refine C.mono ?_
        rintro e x2 ⟨v2, rfl, ho2, b2⟩
        clear C
        have D := iequal_any _ _ FR x2 (HV1.out.below b2) ho2.iv (by omega)
        obtain ⟨a2, c2, rfl, _⟩ := ho2.iv
        rw [hfn] at D
        have HB2 : Hid (Below wr.heap.size wr x2) := HB1.out.trans (b2.mono HB1.out.size)
        clear ho2 b2 HB1 HV1
        go_wp2_with fail
        refine D.mono ?_
        rintro e x3 ⟨rfl, b3⟩
        have HB3 : Hid (Below wr.heap.size wr x3) := HB2.out.trans (b3.mono HB2.out.size)
        have R1 : Hid (Tabs x3 t) := HT0.out.below HB3.out
        have R2 : Hid (RTabs x3 u) := HU0.out.below HB3.out
        have R3 : Hid (Below w.heap.size w x3) := HB0.out.trans (HB3.out.mono HB0.out.size)
        clear D b3 C2
        go_wp2
        go_roundw
        case rel => exact ⟨k + 1, by omega, by go_num, R1, R2, R3⟩
        case measure => simp [RowKit.intOf]; omega
    · have hlt' : ¬ (k : Int) < (nl : Int) := by omega
      have C := HAW.out wr HB0.out
      go_wp2_with fail
      refine C.mono ?_
      rintro e w9 ⟨rfl, b9⟩
      clear C
      go_wp2
      go_ret
      exact ⟨rfl, HB0.out.trans (b9.mono HB0.out.size)⟩
theorem ends_walk2 (r : Int) (w : World) (h1 : -9223372036854775808 ≤ r) (h2 : r ≤ 9223372036854775807) (E : Env w) : Calls Tryz.prog 5 #[.int .i64 r] w fun e w' => e = .returned (.bool true) ∧ Below w.heap.size w w' := ends_walk r w ⟨h1, h2⟩ E
set_option maxHeartbeats 2000000 in
set_option maxRecDepth 1000000 in
theorem hangul_walk (r : Int) (w : World) (E : Env w) : Calls Tryz.prog 6 #[.int .i64 r] w fun e w' => e = .returned (.bool true) ∧ Below w.heap.size w w' := by
  obtain ⟨q, hq⟩ : ∃ q, IntKind.u64.wrap r = q := ⟨_, rfl⟩
  have hq0 : 0 ≤ q := by rw [← hq, IntKind.wrap_u64]; omega
  obtain ⟨n, hn⟩ : ∃ n, Int.tmod q 11172 = n := ⟨_, rfl⟩
  have hn' : q % 11172 = n := by rw [← hn, Int.tmod_eq_emod_of_nonneg hq0]
  have n0 : 0 ≤ n := by omega
  have n1 : n < 11172 := by omega
  have w0 : IntKind.i64.wrap n = n := by rw [IntKind.wrap_i64]; omega
  have w1 : IntKind.u64.wrap n = n := by rw [IntKind.wrap_u64]; omega
  have w2 : IntKind.i64.wrap (44032 + n) = 44032 + n := by rw [IntKind.wrap_i64]; omega
  have C := load_any w E
  have HF : Hid (fullL (44032 + n) = sylL (44032 + n)) := full_syl ⟨by omega, by omega⟩
  have HOK : Hid (okI (44032 + n)) := by show okI _; unfold okI; omega
  obtain ⟨a, ha⟩ : ∃ a, n / 588 = a := ⟨_, rfl⟩
  obtain ⟨b, hb⟩ : ∃ b, n % 588 / 28 = b := ⟨_, rfl⟩
  obtain ⟨d, hd⟩ : ∃ d, n % 28 = d := ⟨_, rfl⟩
  have HX : Hid (sylL (44032 + n) = if d = 0 then [4352 + a, 4449 + b] else [4352 + a, 4449 + b, 4519 + d]) := by
    show _ = _
    unfold sylL
    rw [show 44032 + n - 44032 = n by omega, ha, hb, hd]
  have hsum : a * 588 + b * 28 + d = n := by omega
  have a0 : 0 ≤ a := by omega
  have a1 : a < 20 := by omega
  have b0 : 0 ≤ b := by omega
  have b1 : b < 21 := by omega
  have d0 : 0 ≤ d := by omega
  have d1 : d < 28 := by omega
  have e1 : IntKind.i64.wrap (a * 588) = a * 588 := by rw [IntKind.wrap_i64]; omega
  have e2 : IntKind.i64.wrap (b * 28) = b * 28 := by rw [IntKind.wrap_i64]; omega
  have e3 : IntKind.i64.wrap (a * 588 + b * 28) = a * 588 + b * 28 := by rw [IntKind.wrap_i64]; omega
  have e4 : IntKind.i64.wrap a = a := by rw [IntKind.wrap_i64]; omega
  have e5 : IntKind.i64.wrap b = b := by rw [IntKind.wrap_i64]; omega
  have e6 : IntKind.i64.wrap d = d := by rw [IntKind.wrap_i64]; omega
  have mixed : Tryz.prog.follows .mixedOrders = true := by kernel_rfl
  clear E hn' ha hb hd hq0
  go_enter Tryz.func6, Tryz.ntmps6
  go_wp2_with fail
  refine C.mono ?_
  rintro e w1 ⟨t, rfl, ht, b1⟩
  clear C
  have C := full_t t (44032 + n) w1 ht HOK.out
  rw [HF.out, HX.out] at C
  clear ht
  by_cases hz : d = 0
  · rw [if_pos hz] at C
    have hsum2 : ((a * 588 + b * 28 + 0 : Int) == n) = true := by rw [← hsum, hz]; simp
    have hsum3 : ((a * 588 + b * 28 : Int) == n) = true := by rw [← hsum, hz]; simp
    clear hz hsum
    go_wp2_with fail
    refine C.mono ?_
    rintro e w2 ⟨v, rfl, ho, b2⟩
    clear C
    obtain ⟨va, vc, rfl, hcl⟩ := ho.iv
    obtain ⟨pb, po, rfl, hpc⟩ := hcl (by simp)
    have c0 : w2.cell? ⟨pb, po, none⟩ = some (.int .i64 (4352 + a)) := hpc 0 (by simp)
    have c1 : w2.cell? ⟨pb, po + 1, none⟩ = some (.int .i64 (4449 + b)) := hpc 1 (by simp)
    have HB : Hid (Below w.heap.size w w2) := b1.trans (b2.mono b1.size)
    clear ho hcl hpc b1 b2
    simp only [List.length_cons, List.length_nil, Nat.zero_add, Nat.reduceAdd] at *
    have s1 : 4352 + a - 4352 = a := by omega
    have s2 : 4449 + b - 4449 = b := by omega
    go_wp2
    go_quiet (fail)
    go_wp2
    go_ret
    exact ⟨rfl, Go.Proofs.YtfknljjbdofjjaaGreatDoor.rng.below_drewN HB.out _⟩
  · rw [if_neg hz] at C
    have hsum2 : ((a * 588 + b * 28 + d : Int) == n) = true := by rw [← hsum]; simp
    have e7 : IntKind.i64.wrap (a * 588 + b * 28 + d) = a * 588 + b * 28 + d := by rw [IntKind.wrap_i64]; omega
    have hdp : d > 0 := by omega
    have hdp' : (0 : Int) < d := by omega
    clear hz hsum
    go_wp2_with fail
    refine C.mono ?_
    rintro e w2 ⟨v, rfl, ho, b2⟩
    clear C
    obtain ⟨va, vc, rfl, hcl⟩ := ho.iv
    obtain ⟨pb, po, rfl, hpc⟩ := hcl (by simp)
    have c0 : w2.cell? ⟨pb, po, none⟩ = some (.int .i64 (4352 + a)) := hpc 0 (by simp)
    have c1 : w2.cell? ⟨pb, po + 1, none⟩ = some (.int .i64 (4449 + b)) := hpc 1 (by simp)
    have c2 : w2.cell? ⟨pb, po + 2, none⟩ = some (.int .i64 (4519 + d)) := hpc 2 (by simp)
    have HB : Hid (Below w.heap.size w w2) := b1.trans (b2.mono b1.size)
    clear ho hcl hpc b1 b2
    simp only [List.length_cons, List.length_nil, Nat.zero_add, Nat.reduceAdd] at *
    have s1 : 4352 + a - 4352 = a := by omega
    have s2 : 4449 + b - 4449 = b := by omega
    have s3 : 4519 + d - 4519 = d := by omega
    go_wp2
    go_quiet (fail)
    go_wp2
    go_ret
    exact ⟨rfl, Go.Proofs.YtfknljjbdofjjaaGreatDoor.rng.below_drewN HB.out _⟩
end Go.Proofs.YtfknljjbdofjjaaGreatDoor.dcp
end

section
/- decomp.Members, decomp.Singles; the document's. -/
set_option linter.unusedVariables false
set_option linter.unusedSimpArgs false
namespace Go.Proofs.YtfknljjbdofjjaaGreatDoor.dcp
open Go.RowKit Go.Maps lin prp

def memL : List Int := candL.filter (fun r => decide (1 < (fullL r).length))
def sinL : List Int := candL.filter (fun r => decide ((fullL r).length = 1))
theorem cand_parts : ∀ r ∈ candL, 0 < (partsF r).length ∧ ¬ (44032 ≤ r ∧ r ≤ 55203) ∧ okI r := by
  have h : ∀ r ∈ candL, 0 < (partsF r).length ∧ ¬ (44032 ≤ r ∧ r ≤ 55203) ∧ (0 ≤ r ∧ r ≤ 1114111) := by decide +kernel
  intro r hr
  obtain ⟨h1, h2, h3⟩ := h r hr
  exact ⟨h1, h2, by unfold okI; omega⟩
theorem cand_len : candL.length ≤ 1000 := by decide +kernel
theorem mem_facts : 0 < memL.length ∧ memL.length ≤ 1000 ∧ ∀ r ∈ memL, 1 < (fullL r).length ∧ (0 ≤ r ∧ r ≤ 1114111) := by decide +kernel
theorem sin_facts : 0 < sinL.length ∧ sinL.length ≤ 1000 ∧ ∀ r ∈ sinL, (fullL r).length = 1 ∧ (fullL r).getD 0 0 ≠ r ∧ (0 ≤ r ∧ r ≤ 1114111) := by decide +kernel
theorem mem_sin : ∀ r ∈ candL, (1 < (fullL r).length) ↔ ¬ (fullL r).length = 1 := by decide +kernel
set_option maxRecDepth 1000000 in
theorem full_no (v : Value) (r : Int) (w : World) (h : Unmade w v) : Calls Tryz.prog 12 #[v, .int .i64 r] w fun e w' => e = .returned (.slice none 0 0) ∧ w' = w := by
  have C := made_no v w h
  clear h
  go_enter Tryz.func12, Tryz.ntmps12
  go_wp2
  refine wp_scope_straight ?_
  go_wp2_with fail
  refine C.mono ?_
  rintro e w1 ⟨rfl, hw⟩
  rw [hw]
  clear C
  go_wp2
  try rw [Exit.noGoto_ret]
  go_ret
  exact ⟨rfl, rfl⟩
set_option maxRecDepth 1000000 in
theorem mem_any (a : Option Addr) (n c : Nat) (w : World) : Calls Tryz.prog 45 #[.slice a n c] w fun e w' => e = .returned (.bool (decide (1 < n))) ∧ w' = w := by
  by_cases h : 1 < n
  · rw [decide_eq_true h]
    have h1 : (n : Int) > 1 := by omega
    go_enter Tryz.func45, Tryz.ntmps45
    go_wp2
    go_ret
    exact ⟨rfl, rfl⟩
  · rw [decide_eq_false h]
    have h1 : ¬ (n : Int) > 1 := by omega
    go_enter Tryz.func45, Tryz.ntmps45
    go_wp2
    go_ret
    exact ⟨rfl, rfl⟩
set_option maxRecDepth 1000000 in
theorem sin_any (a : Option Addr) (n c : Nat) (w : World) : Calls Tryz.prog 46 #[.slice a n c] w fun e w' => e = .returned (.bool (decide (n = 1))) ∧ w' = w := by
  by_cases h : n = 1
  · rw [decide_eq_true h]
    have h1 : ((n : Int) == 1) = true := by simp; omega
    go_enter Tryz.func46, Tryz.ntmps46
    go_wp2
    go_ret
    exact ⟨rfl, rfl⟩
  · rw [decide_eq_false h]
    have h1 : ((n : Int) == 1) = false := by simp; omega
    go_enter Tryz.func46, Tryz.ntmps46
    go_wp2
    go_ret
    exact ⟨rfl, rfl⟩
set_option maxHeartbeats 2000000 in
set_option maxRecDepth 1000000 in
theorem told_mem (t : Nat) (w : World) (h : Tabs w t) (E : Env w) : Calls Tryz.prog 44 #[.pointer (some ⟨t, 0, none⟩), .func (.func 45) #[] #[]] w fun e w' => ∃ v, e = .returned v ∧ IOwn w' w.heap.size v (candL.filter (fun r => decide (1 < (fullL r).length))) ∧ Below w.heap.size w w' := by
  obtain ⟨i0, hi, hz0, hy1, hz2⟩ := info_parts infoInt
  have C := cand_any w E
  have HT : Hid (Tabs w t) := h
  have HG : Hid (∀ k, k < candL.length → ∃ r, candL.getD k 0 = r ∧ r ∈ candL ∧ candL.take (k + 1) = candL.take k ++ [r]) := fun k hk => ⟨candL[k], by rw [List.getD_eq_getElem?_getD, List.getElem?_eq_getElem hk]; rfl, List.getElem_mem hk, List.take_succ_eq_append_getElem hk⟩
  have HFL : Hid (∀ k, ((candL.take k).filter (fun r => decide (1 < (fullL r).length))).length ≤ 1000) := fun k => by
    have h1 := List.length_filter_le (fun r => decide (1 < (fullL r).length)) (candL.take k)
    have h2 := cand_len
    rw [List.length_take] at h1
    omega
  have HALL : Hid (candL.take candL.length = candL) := List.take_length
  clear h E
  go_enter Tryz.func44, Tryz.ntmps44
  go_wp2_with fail
  refine C.mono ?_
  rintro e w1 ⟨v, rfl, hv, hb⟩
  obtain ⟨va, vc, rfl, hcl⟩ := hv
  obtain ⟨n, hn⟩ : ∃ n, candL.length = n := ⟨_, rfl⟩
  have HN : Hid (candL.length = n) := hn
  have hn0 : 0 < n := by rw [← hn]; decide +kernel
  have hnx : n ≤ 1000 := by rw [← hn]; exact cand_len
  obtain ⟨pb, po, rfl, hpc⟩ := hcl (by omega)
  have HC : Hid (∀ j, j < n → w1.cell? ⟨pb, po + j, none⟩ = some (.int .i64 (candL.getD j 0))) := fun j hj => hpc j (by omega)
  rw [hn]
  have HB1 : Hid (Below w.heap.size w w1) := hb
  clear C hcl hpc hn hb
  go_wp2
  go_loopw [5, 10] (fun v i wr => ∃ k : Nat, k ≤ n ∧ i = .int .i64 k ∧ Hid (IOwn wr w1.heap.size v ((candL.take k).filter (fun r => decide (1 < (fullL r).length)))) ∧ Hid (Below w1.heap.size w1 wr)) (fun _ i _ => n - (RowKit.intOf i).toNat)
  case atStart => exact ⟨0, Nat.zero_le _, rfl, World.ownsRow_nil _ _ _ _, Below.refl _ _⟩
  case round =>
    obtain ⟨k, hk, rfl, HO, HB⟩ := hrel
    by_cases hlt : k < n
    · have hlt' : (k : Int) < (n : Int) := by omega
      obtain ⟨r, hrd, hrm, hrt⟩ := HG.out k (by rw [HN.out]; exact hlt)
      have c0 := cell_below HB.out (HC.out k hlt)
      rw [hrd] at c0
      obtain ⟨hp, hs, hok⟩ := cand_parts r hrm
      have bw : Below w.heap.size w wr := HB1.out.trans (HB.out.mono HB1.out.size)
      have HBW : Hid (Below w.heap.size w wr) := bw
      have C1 := isSyl_any r wr
      rw [decide_eq_false hs] at C1
      have C2 := parts_t t r wr (HT.out.below bw) hok
      have HOK : Hid (okI r) := hok
      have HRT : Hid (candL.take (k + 1) = candL.take k ++ [r]) := hrt
      obtain ⟨ya, yc, rfl⟩ := own_slice HO.out
      have hfl := HFL.out k
      have hsz := HB.out.size
      generalize hTL : ((candL.take k).filter (fun r => decide (1 < (fullL r).length))).length = tl at *
      generalize hPP : (partsF r).length = pp at *
      have hpz : (pp : Int) > 0 := by omega
      have hpz' : (0 : Int) < (pp : Int) := by omega
      clear hrd hrm hrt hs hok bw
      go_wp2_with fail
      refine C1.mono ?_
      rintro e w2 ⟨rfl, hw2⟩
      rw [hw2]
      clear C1 hw2 w2
      go_wp2_with fail
      refine C2.mono ?_
      rintro e w2 ⟨v2, rfl, hv2, b2⟩
      obtain ⟨xa, xc, hx⟩ := own_slice hv2
      rw [hPP] at hx
      subst hx
      have C3 := full_t t r w2 (HT.out.below (HBW.out.trans (b2.mono HBW.out.size))) HOK.out
      have HB2 : Hid (Below wr.heap.size wr w2) := b2
      clear C2 hv2 b2
      go_wp2_with fail
      refine C3.mono ?_
      rintro e w3 ⟨v3, rfl, hv3, b3⟩
      obtain ⟨za, zc, hz⟩ := own_slice hv3
      subst hz
      have C4 := mem_any za (fullL r).length zc w3
      have HB3 : Hid (Below wr.heap.size wr w3) := HB2.out.trans (b3.mono HB2.out.size)
      have HO3 : Hid (w3.ownsRow w1.heap.size 3 1 (.slice ya tl yc) tl (((candL.take k).filter (fun r => decide (1 < (fullL r).length))).map (Value.int .i64))) := by
        have := own_below HO.out HB3.out
        rw [hTL] at this
        exact this
      clear C3 hv3 b3
      by_cases hq : 1 < (fullL r).length
      · have HFT : Hid ((candL.take (k + 1)).filter (fun r => decide (1 < (fullL r).length)) = (candL.take k).filter (fun r => decide (1 < (fullL r).length)) ++ [r]) := by
          show _ = _
          rw [HRT.out, List.filter_append, List.filter_cons_of_pos (by simpa using hq)]
          rfl
        rw [decide_eq_true hq] at C4
        clear hq
        generalize hFN : (fullL r).length = fn at *
        go_wp2_with fail
        refine C4.mono ?_
        rintro e w4 ⟨rfl, hw4⟩
        rw [hw4]
        clear C4 hw4 w4
        have hsz3 : w1.heap.size ≤ w3.heap.size := by have := HB3.out.size; omega
        go_wp2_with (at_builtin; refine wpList_append_own _ rfl _ _ 22 rfl w1.heap.size 3 i0 (.int .i64 0) 1 8 Tryz.underlying22 hi hz0 hy1 hz2 rfl (by decide) _ _ _ rfl (HO3.out.alloc _) ⟨w3.heap.size, 0, none⟩ 1 1 [.int .i64 r] rfl rfl (cell_one_new _ _ _) ?c2 ?c3 ?c4 ?c5 ?_)
        case c2 => first | (intro u hu; simp at hu; subst hu; rfl) | simp [Value.oneCell']
        case c3 => unfold maxLen; omega
        case c4 => omega
        case c5 => first | omega | (simp; omega)
        intro v' w5 hown5 hgrow _
        have R2 : Hid (Below w1.heap.size w1 w5) := Below.grown ((HB.out.trans (HB3.out.mono hsz)).alloc hsz3 _) hgrow (by simp; omega) (fun k e => (HO3.out.lt k e).1)
        have R1 : Hid (IOwn w5 w1.heap.size v' ((candL.take (k + 1)).filter (fun r => decide (1 < (fullL r).length)))) := by
          show IOwn _ _ _ _
          unfold IOwn
          rw [HFT.out, List.length_append, List.length_singleton, List.map_append, hTL]
          simpa using hown5
        obtain ⟨xa', xc', rfl⟩ := own_slice hown5
        clear hown5 hgrow HO3 HO HB
        go_wp2
        go_roundw
        case rel => exact ⟨k + 1, by omega, by go_num, R1, R2⟩
        case measure => simp [RowKit.intOf]; omega
      · have HFT : Hid ((candL.take (k + 1)).filter (fun r => decide (1 < (fullL r).length)) = (candL.take k).filter (fun r => decide (1 < (fullL r).length))) := by
          show _ = _
          rw [HRT.out, List.filter_append, List.filter_cons_of_neg (by simpa using hq)]
          simp
        rw [decide_eq_false hq] at C4
        clear hq
        generalize hFN : (fullL r).length = fn at *
        go_wp2_with fail
        refine C4.mono ?_
        rintro e w4 ⟨rfl, hw4⟩
        rw [hw4]
        clear C4 hw4 w4
        have R2 : Hid (Below w1.heap.size w1 w3) := HB.out.trans (HB3.out.mono hsz)
        have R1 : Hid (IOwn w3 w1.heap.size (.slice ya tl yc) ((candL.take (k + 1)).filter (fun r => decide (1 < (fullL r).length)))) := by
          show IOwn _ _ _ _
          unfold IOwn
          rw [HFT.out, hTL]
          exact HO3.out
        clear HO3 HO HB
        go_wp2
        go_roundw
        case rel => exact ⟨k + 1, by omega, by go_num, R1, R2⟩
        case measure => simp [RowKit.intOf]; omega
    · obtain rfl : k = n := by omega
      have hlt' : ¬ (k : Int) < (k : Int) := by omega
      obtain ⟨ya, yc, rfl⟩ := own_slice HO.out
      have R1 : Hid (IOwn wr w.heap.size (.slice ya ((candL.take k).filter (fun r => decide (1 < (fullL r).length))).length yc) (candL.filter (fun r => decide (1 < (fullL r).length)))) := by
        have h1 := HO.out
        have h2 : candL.take k = candL := by rw [← HN.out, HALL.out]
        rw [h2] at h1 ⊢
        exact own_lower h1 HB1.out.size
      have R2 : Hid (Below w.heap.size w wr) := HB1.out.trans (HB.out.mono HB1.out.size)
      clear HO
      generalize ((candL.take k).filter (fun r => decide (1 < (fullL r).length))).length = tl at *
      go_wp2
      go_ret
      exact ⟨_, rfl, R1.out, R2.out⟩
set_option maxRecDepth 1000000 in
theorem mems_any (t : Nat) (w : World) (h : Tabs w t) (E : Env w) : Calls Tryz.prog 15 #[.pointer (some ⟨t, 0, none⟩)] w fun e w' => ∃ v, e = .returned v ∧ IOwn w' w.heap.size v memL ∧ Below w.heap.size w w' := by
  have C := told_mem t w h E
  rw [show candL.filter (fun r => decide (1 < (fullL r).length)) = memL from rfl] at C
  clear h E
  generalize memL = L at *
  go_enter Tryz.func15, Tryz.ntmps15
  go_wp2_with fail
  refine C.mono ?_
  rintro e w1 ⟨v, rfl, hv, hb⟩
  obtain ⟨va, vc, rfl⟩ := own_slice hv
  have H : Hid (IOwn w1 w.heap.size (.slice va L.length vc) L ∧ Below w.heap.size w w1) := ⟨hv, hb⟩
  clear C hv hb
  generalize L.length = n at *
  go_wp2
  go_ret
  exact ⟨_, rfl, H.out⟩
set_option maxHeartbeats 1000000 in
set_option maxRecDepth 1000000 in
theorem told_mem_no (tv : Value) (w : World) (h : Unmade w tv) (E : Env w) : Calls Tryz.prog 44 #[tv, .func (.func 45) #[] #[]] w fun e w' => e = .returned (.slice none 0 0) ∧ Below w.heap.size w w' := by
  have C := cand_any w E
  have HT : Hid (Unmade w tv) := h
  have HG : Hid (∀ k, k < candL.length → candL.getD k 0 ∈ candL) := fun k hk => by rw [List.getD_eq_getElem?_getD, List.getElem?_eq_getElem hk]; exact List.getElem_mem hk
  clear h E
  go_enter Tryz.func44, Tryz.ntmps44
  go_wp2_with fail
  refine C.mono ?_
  rintro e w1 ⟨v, rfl, hv, hb⟩
  obtain ⟨va, vc, rfl, hcl⟩ := hv
  obtain ⟨n, hn⟩ : ∃ n, candL.length = n := ⟨_, rfl⟩
  have HN : Hid (candL.length = n) := hn
  have hn0 : 0 < n := by rw [← hn]; decide +kernel
  have hnx : n ≤ 1000 := by rw [← hn]; exact cand_len
  obtain ⟨pb, po, rfl, hpc⟩ := hcl (by omega)
  have HC : Hid (∀ j, j < n → w1.cell? ⟨pb, po + j, none⟩ = some (.int .i64 (candL.getD j 0))) := fun j hj => hpc j (by omega)
  rw [hn]
  have HB1 : Hid (Below w.heap.size w w1) := hb
  have HT1 : Hid (Unmade w1 tv) := HT.out.below hb
  clear C hcl hpc hn hb
  go_wp2
  go_loopw [5, 10] (fun v i wr => ∃ k : Nat, k ≤ n ∧ v = .slice none 0 0 ∧ i = .int .i64 k ∧ wr = w1) (fun _ i _ => n - (RowKit.intOf i).toNat)
  case atStart => exact ⟨0, Nat.zero_le _, rfl, rfl, rfl⟩
  case round =>
    obtain ⟨k, hk, rfl, rfl, rfl⟩ := hrel
    by_cases hlt : k < n
    · have hlt' : (k : Int) < (n : Int) := by omega
      have hrm := HG.out k (by rw [HN.out]; exact hlt)
      have c0 := HC.out k hlt
      obtain ⟨hp, hs, hok⟩ := cand_parts _ hrm
      have C1 := isSyl_any (candL.getD k 0) wr
      rw [decide_eq_false hs] at C1
      have C2 := parts_no tv (candL.getD k 0) wr HT1.out
      clear hrm hp hs hok
      generalize candL.getD k 0 = r at *
      go_wp2_with fail
      refine C1.mono ?_
      rintro e w2 ⟨rfl, hw2⟩
      rw [hw2]
      clear C1 hw2 w2
      go_wp2_with fail
      refine C2.mono ?_
      rintro e w2 ⟨rfl, hw2⟩
      rw [hw2]
      clear C2 hw2 w2
      go_wp2
      go_roundw
      case rel => exact ⟨k + 1, by omega, by first | rfl | trivial, by go_num, by first | rfl | trivial⟩
      case measure => simp [RowKit.intOf]; omega
    · have hlt' : ¬ (k : Int) < (n : Int) := by omega
      go_wp2
      go_ret
      exact ⟨rfl, HB1.out⟩
set_option maxRecDepth 1000000 in
theorem mems_no (tv : Value) (w : World) (h : Unmade w tv) (E : Env w) : Calls Tryz.prog 15 #[tv] w fun e w' => e = .returned (.slice none 0 0) ∧ Below w.heap.size w w' := by
  have C := told_mem_no tv w h E
  clear h E
  go_enter Tryz.func15, Tryz.ntmps15
  go_wp2_with fail
  refine C.mono ?_
  rintro e w1 ⟨rfl, hb⟩
  clear C
  go_wp2
  go_ret
  exact ⟨rfl, hb⟩
set_option maxHeartbeats 2000000 in
set_option maxRecDepth 1000000 in
theorem told_sin (t : Nat) (w : World) (h : Tabs w t) (E : Env w) : Calls Tryz.prog 44 #[.pointer (some ⟨t, 0, none⟩), .func (.func 46) #[] #[]] w fun e w' => ∃ v, e = .returned v ∧ IOwn w' w.heap.size v (candL.filter (fun r => decide ((fullL r).length = 1))) ∧ Below w.heap.size w w' := by
  obtain ⟨i0, hi, hz0, hy1, hz2⟩ := info_parts infoInt
  have C := cand_any w E
  have HT : Hid (Tabs w t) := h
  have HG : Hid (∀ k, k < candL.length → ∃ r, candL.getD k 0 = r ∧ r ∈ candL ∧ candL.take (k + 1) = candL.take k ++ [r]) := fun k hk => ⟨candL[k], by rw [List.getD_eq_getElem?_getD, List.getElem?_eq_getElem hk]; rfl, List.getElem_mem hk, List.take_succ_eq_append_getElem hk⟩
  have HFL : Hid (∀ k, ((candL.take k).filter (fun r => decide ((fullL r).length = 1))).length ≤ 1000) := fun k => by
    have h1 := List.length_filter_le (fun r => decide ((fullL r).length = 1)) (candL.take k)
    have h2 := cand_len
    rw [List.length_take] at h1
    omega
  have HALL : Hid (candL.take candL.length = candL) := List.take_length
  clear h E
  go_enter Tryz.func44, Tryz.ntmps44
  go_wp2_with fail
  refine C.mono ?_
  rintro e w1 ⟨v, rfl, hv, hb⟩
  obtain ⟨va, vc, rfl, hcl⟩ := hv
  obtain ⟨n, hn⟩ : ∃ n, candL.length = n := ⟨_, rfl⟩
  have HN : Hid (candL.length = n) := hn
  have hn0 : 0 < n := by rw [← hn]; decide +kernel
  have hnx : n ≤ 1000 := by rw [← hn]; exact cand_len
  obtain ⟨pb, po, rfl, hpc⟩ := hcl (by omega)
  have HC : Hid (∀ j, j < n → w1.cell? ⟨pb, po + j, none⟩ = some (.int .i64 (candL.getD j 0))) := fun j hj => hpc j (by omega)
  rw [hn]
  have HB1 : Hid (Below w.heap.size w w1) := hb
  clear C hcl hpc hn hb
  go_wp2
  go_loopw [5, 10] (fun v i wr => ∃ k : Nat, k ≤ n ∧ i = .int .i64 k ∧ Hid (IOwn wr w1.heap.size v ((candL.take k).filter (fun r => decide ((fullL r).length = 1)))) ∧ Hid (Below w1.heap.size w1 wr)) (fun _ i _ => n - (RowKit.intOf i).toNat)
  case atStart => exact ⟨0, Nat.zero_le _, rfl, World.ownsRow_nil _ _ _ _, Below.refl _ _⟩
  case round =>
    obtain ⟨k, hk, rfl, HO, HB⟩ := hrel
    by_cases hlt : k < n
    · have hlt' : (k : Int) < (n : Int) := by omega
      obtain ⟨r, hrd, hrm, hrt⟩ := HG.out k (by rw [HN.out]; exact hlt)
      have c0 := cell_below HB.out (HC.out k hlt)
      rw [hrd] at c0
      obtain ⟨hp, hs, hok⟩ := cand_parts r hrm
      have bw : Below w.heap.size w wr := HB1.out.trans (HB.out.mono HB1.out.size)
      have HBW : Hid (Below w.heap.size w wr) := bw
      have C1 := isSyl_any r wr
      rw [decide_eq_false hs] at C1
      have C2 := parts_t t r wr (HT.out.below bw) hok
      have HOK : Hid (okI r) := hok
      have HRT : Hid (candL.take (k + 1) = candL.take k ++ [r]) := hrt
      obtain ⟨ya, yc, rfl⟩ := own_slice HO.out
      have hfl := HFL.out k
      have hsz := HB.out.size
      generalize hTL : ((candL.take k).filter (fun r => decide ((fullL r).length = 1))).length = tl at *
      generalize hPP : (partsF r).length = pp at *
      have hpz : (pp : Int) > 0 := by omega
      have hpz' : (0 : Int) < (pp : Int) := by omega
      clear hrd hrm hrt hs hok bw
      go_wp2_with fail
      refine C1.mono ?_
      rintro e w2 ⟨rfl, hw2⟩
      rw [hw2]
      clear C1 hw2 w2
      go_wp2_with fail
      refine C2.mono ?_
      rintro e w2 ⟨v2, rfl, hv2, b2⟩
      obtain ⟨xa, xc, hx⟩ := own_slice hv2
      rw [hPP] at hx
      subst hx
      have C3 := full_t t r w2 (HT.out.below (HBW.out.trans (b2.mono HBW.out.size))) HOK.out
      have HB2 : Hid (Below wr.heap.size wr w2) := b2
      clear C2 hv2 b2
      go_wp2_with fail
      refine C3.mono ?_
      rintro e w3 ⟨v3, rfl, hv3, b3⟩
      obtain ⟨za, zc, hz⟩ := own_slice hv3
      subst hz
      have C4 := sin_any za (fullL r).length zc w3
      have HB3 : Hid (Below wr.heap.size wr w3) := HB2.out.trans (b3.mono HB2.out.size)
      have HO3 : Hid (w3.ownsRow w1.heap.size 3 1 (.slice ya tl yc) tl (((candL.take k).filter (fun r => decide ((fullL r).length = 1))).map (Value.int .i64))) := by
        have := own_below HO.out HB3.out
        rw [hTL] at this
        exact this
      clear C3 hv3 b3
      by_cases hq : (fullL r).length = 1
      · have HFT : Hid ((candL.take (k + 1)).filter (fun r => decide ((fullL r).length = 1)) = (candL.take k).filter (fun r => decide ((fullL r).length = 1)) ++ [r]) := by
          show _ = _
          rw [HRT.out, List.filter_append, List.filter_cons_of_pos (by simpa using hq)]
          rfl
        rw [decide_eq_true hq] at C4
        clear hq
        generalize hFN : (fullL r).length = fn at *
        go_wp2_with fail
        refine C4.mono ?_
        rintro e w4 ⟨rfl, hw4⟩
        rw [hw4]
        clear C4 hw4 w4
        have hsz3 : w1.heap.size ≤ w3.heap.size := by have := HB3.out.size; omega
        go_wp2_with (at_builtin; refine wpList_append_own _ rfl _ _ 22 rfl w1.heap.size 3 i0 (.int .i64 0) 1 8 Tryz.underlying22 hi hz0 hy1 hz2 rfl (by decide) _ _ _ rfl (HO3.out.alloc _) ⟨w3.heap.size, 0, none⟩ 1 1 [.int .i64 r] rfl rfl (cell_one_new _ _ _) ?c2 ?c3 ?c4 ?c5 ?_)
        case c2 => first | (intro u hu; simp at hu; subst hu; rfl) | simp [Value.oneCell']
        case c3 => unfold maxLen; omega
        case c4 => omega
        case c5 => first | omega | (simp; omega)
        intro v' w5 hown5 hgrow _
        have R2 : Hid (Below w1.heap.size w1 w5) := Below.grown ((HB.out.trans (HB3.out.mono hsz)).alloc hsz3 _) hgrow (by simp; omega) (fun k e => (HO3.out.lt k e).1)
        have R1 : Hid (IOwn w5 w1.heap.size v' ((candL.take (k + 1)).filter (fun r => decide ((fullL r).length = 1)))) := by
          show IOwn _ _ _ _
          unfold IOwn
          rw [HFT.out, List.length_append, List.length_singleton, List.map_append, hTL]
          simpa using hown5
        obtain ⟨xa', xc', rfl⟩ := own_slice hown5
        clear hown5 hgrow HO3 HO HB
        go_wp2
        go_roundw
        case rel => exact ⟨k + 1, by omega, by go_num, R1, R2⟩
        case measure => simp [RowKit.intOf]; omega
      · have HFT : Hid ((candL.take (k + 1)).filter (fun r => decide ((fullL r).length = 1)) = (candL.take k).filter (fun r => decide ((fullL r).length = 1))) := by
          show _ = _
          rw [HRT.out, List.filter_append, List.filter_cons_of_neg (by simpa using hq)]
          simp
        rw [decide_eq_false hq] at C4
        clear hq
        generalize hFN : (fullL r).length = fn at *
        go_wp2_with fail
        refine C4.mono ?_
        rintro e w4 ⟨rfl, hw4⟩
        rw [hw4]
        clear C4 hw4 w4
        have R2 : Hid (Below w1.heap.size w1 w3) := HB.out.trans (HB3.out.mono hsz)
        have R1 : Hid (IOwn w3 w1.heap.size (.slice ya tl yc) ((candL.take (k + 1)).filter (fun r => decide ((fullL r).length = 1)))) := by
          show IOwn _ _ _ _
          unfold IOwn
          rw [HFT.out, hTL]
          exact HO3.out
        clear HO3 HO HB
        go_wp2
        go_roundw
        case rel => exact ⟨k + 1, by omega, by go_num, R1, R2⟩
        case measure => simp [RowKit.intOf]; omega
    · obtain rfl : k = n := by omega
      have hlt' : ¬ (k : Int) < (k : Int) := by omega
      obtain ⟨ya, yc, rfl⟩ := own_slice HO.out
      have R1 : Hid (IOwn wr w.heap.size (.slice ya ((candL.take k).filter (fun r => decide ((fullL r).length = 1))).length yc) (candL.filter (fun r => decide ((fullL r).length = 1)))) := by
        have h1 := HO.out
        have h2 : candL.take k = candL := by rw [← HN.out, HALL.out]
        rw [h2] at h1 ⊢
        exact own_lower h1 HB1.out.size
      have R2 : Hid (Below w.heap.size w wr) := HB1.out.trans (HB.out.mono HB1.out.size)
      clear HO
      generalize ((candL.take k).filter (fun r => decide ((fullL r).length = 1))).length = tl at *
      go_wp2
      go_ret
      exact ⟨_, rfl, R1.out, R2.out⟩
set_option maxRecDepth 1000000 in
theorem sins_any (t : Nat) (w : World) (h : Tabs w t) (E : Env w) : Calls Tryz.prog 16 #[.pointer (some ⟨t, 0, none⟩)] w fun e w' => ∃ v, e = .returned v ∧ IOwn w' w.heap.size v sinL ∧ Below w.heap.size w w' := by
  have C := told_sin t w h E
  rw [show candL.filter (fun r => decide ((fullL r).length = 1)) = sinL from rfl] at C
  clear h E
  generalize sinL = L at *
  go_enter Tryz.func16, Tryz.ntmps16
  go_wp2_with fail
  refine C.mono ?_
  rintro e w1 ⟨v, rfl, hv, hb⟩
  obtain ⟨va, vc, rfl⟩ := own_slice hv
  have H : Hid (IOwn w1 w.heap.size (.slice va L.length vc) L ∧ Below w.heap.size w w1) := ⟨hv, hb⟩
  clear C hv hb
  generalize L.length = n at *
  go_wp2
  go_ret
  exact ⟨_, rfl, H.out⟩
set_option maxHeartbeats 1000000 in
set_option maxRecDepth 1000000 in
theorem told_sin_no (tv : Value) (w : World) (h : Unmade w tv) (E : Env w) : Calls Tryz.prog 44 #[tv, .func (.func 46) #[] #[]] w fun e w' => e = .returned (.slice none 0 0) ∧ Below w.heap.size w w' := by
  have C := cand_any w E
  have HT : Hid (Unmade w tv) := h
  have HG : Hid (∀ k, k < candL.length → candL.getD k 0 ∈ candL) := fun k hk => by rw [List.getD_eq_getElem?_getD, List.getElem?_eq_getElem hk]; exact List.getElem_mem hk
  clear h E
  go_enter Tryz.func44, Tryz.ntmps44
  go_wp2_with fail
  refine C.mono ?_
  rintro e w1 ⟨v, rfl, hv, hb⟩
  obtain ⟨va, vc, rfl, hcl⟩ := hv
  obtain ⟨n, hn⟩ : ∃ n, candL.length = n := ⟨_, rfl⟩
  have HN : Hid (candL.length = n) := hn
  have hn0 : 0 < n := by rw [← hn]; decide +kernel
  have hnx : n ≤ 1000 := by rw [← hn]; exact cand_len
  obtain ⟨pb, po, rfl, hpc⟩ := hcl (by omega)
  have HC : Hid (∀ j, j < n → w1.cell? ⟨pb, po + j, none⟩ = some (.int .i64 (candL.getD j 0))) := fun j hj => hpc j (by omega)
  rw [hn]
  have HB1 : Hid (Below w.heap.size w w1) := hb
  have HT1 : Hid (Unmade w1 tv) := HT.out.below hb
  clear C hcl hpc hn hb
  go_wp2
  go_loopw [5, 10] (fun v i wr => ∃ k : Nat, k ≤ n ∧ v = .slice none 0 0 ∧ i = .int .i64 k ∧ wr = w1) (fun _ i _ => n - (RowKit.intOf i).toNat)
  case atStart => exact ⟨0, Nat.zero_le _, rfl, rfl, rfl⟩
  case round =>
    obtain ⟨k, hk, rfl, rfl, rfl⟩ := hrel
    by_cases hlt : k < n
    · have hlt' : (k : Int) < (n : Int) := by omega
      have hrm := HG.out k (by rw [HN.out]; exact hlt)
      have c0 := HC.out k hlt
      obtain ⟨hp, hs, hok⟩ := cand_parts _ hrm
      have C1 := isSyl_any (candL.getD k 0) wr
      rw [decide_eq_false hs] at C1
      have C2 := parts_no tv (candL.getD k 0) wr HT1.out
      clear hrm hp hs hok
      generalize candL.getD k 0 = r at *
      go_wp2_with fail
      refine C1.mono ?_
      rintro e w2 ⟨rfl, hw2⟩
      rw [hw2]
      clear C1 hw2 w2
      go_wp2_with fail
      refine C2.mono ?_
      rintro e w2 ⟨rfl, hw2⟩
      rw [hw2]
      clear C2 hw2 w2
      go_wp2
      go_roundw
      case rel => exact ⟨k + 1, by omega, by first | rfl | trivial, by go_num, by first | rfl | trivial⟩
      case measure => simp [RowKit.intOf]; omega
    · have hlt' : ¬ (k : Int) < (n : Int) := by omega
      go_wp2
      go_ret
      exact ⟨rfl, HB1.out⟩
set_option maxRecDepth 1000000 in
theorem sins_no (tv : Value) (w : World) (h : Unmade w tv) (E : Env w) : Calls Tryz.prog 16 #[tv] w fun e w' => e = .returned (.slice none 0 0) ∧ Below w.heap.size w w' := by
  have C := told_sin_no tv w h E
  clear h E
  go_enter Tryz.func16, Tryz.ntmps16
  go_wp2_with fail
  refine C.mono ?_
  rintro e w1 ⟨rfl, hb⟩
  clear C
  go_wp2
  go_ret
  exact ⟨rfl, hb⟩
end Go.Proofs.YtfknljjbdofjjaaGreatDoor.dcp
end
