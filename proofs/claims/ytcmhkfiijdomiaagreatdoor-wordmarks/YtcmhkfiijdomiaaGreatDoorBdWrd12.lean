/- Texts that the proof leans on, one behind the other. -/
import Derived.Test.YtcmhkfiijdomiaaGreatDoorBdWrd11
import Derived.Test.YtcmhkfiijdomiaaGreatDoorBdWrd6

section
/- WordMarks: the walk. -/
set_option linter.unusedVariables false
set_option linter.unusedSimpArgs false
namespace Go.Proofs.YtcmhkfiijdomiaaGreatDoor.wrd
open Go.RowKit Go.Maps
open Go.Proofs.YtcmhkfiijdomiaaGreatDoor.lin Go.Proofs.YtcmhkfiijdomiaaGreatDoor.prp
open Go.Proofs.YtcmhkfiijdomiaaGreatDoor.clu (ArgC)

theorem iv_take {w : World} {ao : Option Addr} {len cap : Nat} {l : List Int} (h : IV w (.slice ao len cap) l) (n : Nat) (hn : n ≤ len) : IV w (.slice ao n cap) (l.take n) := by
  obtain ⟨a, c, e, hc⟩ := h
  injection e with e1 e2 e3
  subst e1 e2 e3
  have hl : (l.take n).length = n := by rw [List.length_take]; omega
  refine ⟨_, _, by rw [hl], fun h0 => ?_⟩
  obtain ⟨b, o, e, hx⟩ := hc (by omega)
  refine ⟨b, o, e, fun j hj => ?_⟩
  rw [hx j (by omega), List.getD_eq_getElem?_getD, List.getD_eq_getElem?_getD, List.getElem?_take_of_lt (by omega)]
theorem marks_all {LA : List Int} {k j : Nat} {x : Int} (hk : k = j + 1) (hx : LA[j]? = some x) (h9 : kw x = 9) :
    edgeW (LA.take k ++ [769] ++ LA.drop k) (k : Int) = false ∧ (∀ i : Nat, i < k → edgeW LA (i : Int) = edgeW (LA.take k ++ [769] ++ LA.drop k) (i : Int)) ∧ (∀ i : Nat, k ≤ i → i < LA.length → edgeW LA (i : Int) = edgeW (LA.take k ++ [769] ++ LA.drop k) ((i + 1 : Nat) : Int)) := by
  have hj := (List.getElem?_eq_some_iff.1 hx).1
  have e1 : LA.take k = LA.take j ++ [x] := by rw [hk, List.take_add_one, hx]; rfl
  have e2 : LA = LA.take j ++ [x] ++ LA.drop k := by rw [← e1, List.take_append_drop]
  have hlen : (LA.take j).length = j := by rw [List.length_take]; omega
  rw [e1]
  refine ⟨?_, fun i hi => ?_, fun i h1 h2 => ?_⟩
  · have q := marks_at (A := LA.take j) (B := LA.drop k) h9
    rw [hlen, ← hk] at q
    exact q
  · have q := marks_low (A := LA.take j) (B := LA.drop k) h9 (i := i) (by rw [hlen]; omega)
    rwa [← e2] at q
  · obtain ⟨d, hd⟩ : ∃ d, i = k + d := ⟨i - k, by omega⟩
    have q := marks_high (A := LA.take j) (B := LA.drop k) h9 (j := d) (by rw [List.length_drop]; omega)
    rw [← e2, hlen, ← hk, ← hd] at q
    exact q
theorem mod_len (x : Int) (n : Nat) : ∃ k : Nat, k ≤ n ∧ Int.tmod (IntKind.u64.wrap x) ((n : Int) + 1) = (k : Int) := by
  have hu : 0 ≤ IntKind.u64.wrap x := by simp [IntKind.wrap, IntKind.signed, IntKind.bits]; omega
  have h1 : 0 ≤ IntKind.u64.wrap x % ((n : Int) + 1) := Int.emod_nonneg _ (by omega)
  have h2 : IntKind.u64.wrap x % ((n : Int) + 1) < (n : Int) + 1 := Int.emod_lt_of_pos _ (by omega)
  rw [Int.tmod_eq_emod_of_nonneg hu]
  generalize IntKind.u64.wrap x % ((n : Int) + 1) = y at *
  exact ⟨y.toNat, by omega, by omega⟩
/-- What stands from a place on. -/
theorem iv_drop {w : World} {ao : Option Addr} {n cap k : Nat} {l : List Int} (h : IV w (.slice ao n cap) l) (hk : k ≤ n) (hc : n ≤ cap) : IV w (.slice (if cap = k then ao else ao.map (·.add k)) (n - k) (cap - k)) (l.drop k) := by
  obtain ⟨hl, hat⟩ := iv_cells h
  have hll : (l.drop k).length = n - k := by rw [List.length_drop, hl]
  refine ⟨_, _, by rw [hll], fun h0 => ?_⟩
  rw [hll] at h0
  obtain ⟨x0, b, o, rfl, _, _⟩ := hat 0 (by omega)
  refine ⟨b, o + k, by rw [if_neg (by omega), Option.map_some, Addr.add_lit], fun j hj => ?_⟩
  rw [hll] at hj
  obtain ⟨x, b', o', e, hcell, hx⟩ := hat (k + j) (by omega)
  injection e with e
  injection e with e1 e2
  subst e1 e2
  rw [Nat.add_assoc, hcell, List.getD_eq_getElem?_getD, List.getElem?_drop, hx]
  rfl
set_option maxHeartbeats 4000000 in
set_option maxRecDepth 1000000 in
theorem marks_walk (va : Value) (la : List Int) (r : Int) (w : World) (ha : ArgC w va la) (E : Env w) : Calls Tryz.prog 6 #[va, .int .i64 r] w fun e w' => e = .returned (.bool true) ∧ Below w.heap.size w w' := by
  have HE : Hid (Env w) := E
  have HA : Hid (ArgC w va la) := ha
  obtain ⟨aa, ca, rfl, _, hoka, hcapa, hmaxa, hnila⟩ := ha
  obtain ⟨n, hn⟩ : ∃ n, min la.length 30 = n := ⟨_, rfl⟩
  have hnl : n ≤ la.length := by omega
  have hn30 : n ≤ 30 := by omega
  obtain ⟨k, hkn, hmod⟩ := mod_len r n
  have HV : Hid (IV w (.slice aa n ca) (la.take n)) := HA.out.take n hnl
  have HL : Hid ((la.take n).length = n) := by show _ = _; rw [List.length_take]; omega
  have HOK : Hid (∀ x ∈ la.take n, okI x) := fun x hx => hoka x (List.mem_of_mem_take hx)
  have HNA : Hid (aa = none → ca = 0) := hnila
  have hmin : min (la.length : Int) 30 = (n : Int) := by omega
  have hmin2 : (if (la.length : Int) < 30 then (la.length : Int) else 30) = (n : Int) := by split <;> omega
  have hmin3 : (if (30 : Int) < (la.length : Int) then 30 else (la.length : Int)) = (n : Int) := by split <;> omega
  have hmin4 : (if (la.length : Int) ≤ 30 then (la.length : Int) else 30) = (n : Int) := by split <;> omega
  have hncap : (n : Int) ≤ (ca : Int) := by omega
  have hn0 : (0 : Int) ≤ (n : Int) := by omega
  generalize la.take n = LA at *
  generalize la.length = lla at *
  have C := load_any w E
  have u1 : IntKind.i64.wrap ((n : Int) + 1) = (n : Int) + 1 := by rw [IntKind.wrap_i64]; omega
  have u2 : IntKind.u64.wrap ((n : Int) + 1) = (n : Int) + 1 := by rw [IntKind.wrap_u64]; omega
  have u3 : ((n : Int) + 1 == 0) = false := by rw [beq_eq_false_iff_ne]; omega
  have u3' : ¬ (n : Int) + 1 = 0 := by omega
  have u4 : IntKind.u64.wrap (k : Int) = (k : Int) := by rw [IntKind.wrap_u64]; omega
  have u5 : IntKind.i64.wrap (k : Int) = (k : Int) := by rw [IntKind.wrap_i64]; omega
  clear hoka HA E hnila hn
  go_enter Tryz.func6, Tryz.ntmps6
  go_wp2_with fail
  refine C.mono ?_
  rintro e w1 ⟨t, rfl, ht, b1⟩
  clear C
  have HB1 : Hid (Below w.heap.size w w1) := b1
  have HT1 : Hid (Tabs w1 t) := ht
  clear b1 ht hmin hmin2 hmin3 hmin4 hnl
  have k0 : (0 : Int) ≤ (k : Int) := by omega
  have k1 : (k : Int) ≤ (n : Int) := by omega
  have k2 : (k : Int) ≤ (ca : Int) := by omega
  obtain ⟨AO, hAO⟩ : ∃ AO, (if ca = k then aa else aa.map (·.add k)) = AO := ⟨_, rfl⟩
  rcases Nat.eq_zero_or_pos k with h0 | h0
  · have q0 : ((k : Int) == 0) = true := by rw [beq_iff_eq]; omega
    clear h0
    have C := awake_any w1 (HE.out.below HB1.out)
    go_wp2_with fail
    refine C.mono ?_
    rintro e wq ⟨rfl, bq⟩
    clear C
    have HBq : Hid (Below w.heap.size w wq) := HB1.out.trans (bq.mono HB1.out.size)
    clear bq
    go_wp2
    try rw [Exit.noGoto_ret]
    go_ret
    exact ⟨rfl, HBq.out⟩
  · obtain ⟨j, hj⟩ : ∃ j, k = j + 1 := ⟨k - 1, by omega⟩
    obtain ⟨hla, hat⟩ := iv_cells HV.out
    obtain ⟨x, xb, xo, rfl, cx0, hx⟩ := hat j (by omega)
    have cx := cell_below HB1.out cx0
    have hAO2 : (if ca = k then (some ⟨xb, xo, none⟩ : Option Addr) else some ⟨xb, xo + k, none⟩) = AO := by rw [← hAO, Option.map_some, Addr.add_lit]
    have q0 : ((k : Int) == 0) = false := by rw [beq_eq_false_iff_ne]; omega
    have wk : IntKind.i64.wrap ((k : Int) - 1) = (j : Int) := by rw [IntKind.wrap_i64]; omega
    have j1 : (0 : Int) ≤ (j : Int) := by omega
    have j2 : (j : Int) < (n : Int) := by omega
    have C := (word_t t x w1 HT1.out).mono (fun e w' hh => (⟨⟨_, hh.1, isW_wor x⟩, hh.2⟩ : (∃ A, e = .returned (.string A) ∧ IsW A (kw x)) ∧ Below w1.heap.size w1 w'))
    by_cases h9 : kw x = 9
    · obtain ⟨m1, m2, m3⟩ := marks_all hj hx h9
      have HM1 : Hid (edgeW (LA.take k ++ [769] ++ LA.drop k) (k : Int) = false) := m1
      have HM2 : Hid (∀ i : Nat, i < k → edgeW LA (i : Int) = edgeW (LA.take k ++ [769] ++ LA.drop k) (i : Int)) := m2
      have HM3 : Hid (∀ i : Nat, k ≤ i → i < LA.length → edgeW LA (i : Int) = edgeW (LA.take k ++ [769] ++ LA.drop k) ((i + 1 : Nat) : Int)) := m3
      have HQ : Hid ((kw x == 9) = true) := by show _ = _; rw [h9]; rfl
      clear m1 m2 m3 h9 hat hla cx0 hx hj h0
      generalize kw x = a at *
      go_wp2_with fail
      refine C.mono ?_
      rintro e wa ⟨⟨A, rfl, hA⟩, ba⟩
      clear C
      have q9 := hA.n9
      rw [HQ.out] at q9
      have HB1a : Hid (Below w.heap.size w wa) := HB1.out.trans (ba.mono HB1.out.size)
      have HT1a : Hid (Tabs wa t) := HT1.out.below ba
      clear hA ba HB1 HT1 cx
      go_wp2
      refine wp_region_noPanic ?_
      refine wp_region_held_drew (S := fun _ => True) (by kernel_rfl) trivial (fun hHeld => ?_)
      have B2 : Below wa.heap.size wa wa.drew := (Below.refl _ wa).drew
      have HB2 : Hid (Below w.heap.size w wa.drew) := HB1a.out.trans (B2.mono HB1a.out.size)
      have HT2 : Hid (Tabs wa.drew t) := HT1a.out.below B2
      clear B2 HB1a HT1a
      generalize wa.drew = w2 at *
      refine wpAnyH_take (i := 0) (v := ?_) rfl (by kernel_rfl) (by kernel_rfl) (by kernel_rfl) (fun _ _ _ h => h) (Or.inl ⟨by rfl, ?_⟩) (by assumption) ?_
      rotate_left
      · (intro w' hSw; (try dsimp only at hSw); go_simp; try with_reducible rfl)
      try simp only [Act.put, List.getElem_toArray, List.getElem_cons_zero, List.getElem_cons_succ, List.setIfInBounds_toArray, List.set_cons_zero, List.set_cons_succ]
      refine wpAnyH_take (i := 1) (v := ?_) rfl (by kernel_rfl) (by kernel_rfl) (by kernel_rfl) (fun _ _ _ h => h) (Or.inl ⟨by rfl, ?_⟩) (by assumption) ?_
      rotate_left
      · (intro w' hSw; (try dsimp only at hSw); go_simp; try with_reducible rfl)
      try simp only [Act.put, List.getElem_toArray, List.getElem_cons_zero, List.getElem_cons_succ, List.setIfInBounds_toArray, List.set_cons_zero, List.set_cons_succ]
      refine wpAnyH_take (i := 2) (v := ?_) rfl (by kernel_rfl) (by kernel_rfl) (by kernel_rfl) (fun _ _ _ h => h) (Or.inl ⟨by rfl, ?_⟩) (by assumption) ?_
      rotate_left
      · (intro w' hSw; (try dsimp only at hSw); go_simp; try with_reducible rfl)
      try simp only [Act.put, List.getElem_toArray, List.getElem_cons_zero, List.getElem_cons_succ, List.setIfInBounds_toArray, List.set_cons_zero, List.set_cons_succ]
      refine wpAnyH_take (i := 4) (v := ?_) rfl (by kernel_rfl) (by kernel_rfl) (by kernel_rfl) (fun _ _ _ h => h) (Or.inl ⟨by rfl, ?_⟩) (by assumption) ?_
      rotate_left
      · (intro w' hSw; (try dsimp only at hSw); go_simp; try with_reducible rfl)
      try simp only [Act.put, List.getElem_toArray, List.getElem_cons_zero, List.getElem_cons_succ, List.setIfInBounds_toArray, List.set_cons_zero, List.set_cons_succ]
      refine wpAnyH_take (i := 5) (v := ?_) rfl (by kernel_rfl) (by kernel_rfl) (by kernel_rfl) (fun _ _ _ h => h) (Or.inl ⟨by rfl, ?_⟩) (by assumption) ?_
      rotate_left
      · (intro w' hSw; (try dsimp only at hSw); go_simp; try with_reducible rfl)
      try simp only [Act.put, List.getElem_toArray, List.getElem_cons_zero, List.getElem_cons_succ, List.setIfInBounds_toArray, List.set_cons_zero, List.set_cons_succ]
      refine wpAnyH_take (i := 6) (v := ?_) rfl (by kernel_rfl) (by kernel_rfl) (by kernel_rfl) (fun _ _ _ h => h) (Or.inl ⟨by rfl, ?_⟩) (by assumption) ?_
      rotate_left
      · (intro w' hSw; (try dsimp only at hSw); go_simp; try with_reducible rfl)
      try simp only [Act.put, List.getElem_toArray, List.getElem_cons_zero, List.getElem_cons_succ, List.setIfInBounds_toArray, List.set_cons_zero, List.set_cons_succ]
      refine wpAnyH_ready (rs := [3]) (by kernel_rfl) (by simp) ?_
      refine AllReadyH.cons rfl (fun K hK => ?_) AllReadyH.nil
      try simp only [Act.put, List.getElem_toArray, List.getElem_cons_zero, List.getElem_cons_succ, List.setIfInBounds_toArray, List.set_cons_zero, List.set_cons_succ]
      go_simp
      refine hK.out _ _ trivial (fun hHeld2 => ?_)
      clear hK K hHeld
      have hHeld := hHeld2
      clear hHeld2
      try simp only [Act.put, List.getElem_toArray, List.getElem_cons_zero, List.getElem_cons_succ, List.setIfInBounds_toArray, List.set_cons_zero, List.set_cons_succ]
      refine wpAnyH_ready (rs := [7]) (by kernel_rfl) (by simp) ?_
      refine AllReadyH.cons rfl (fun K hK => ?_) AllReadyH.nil
      try simp only [Act.put, List.getElem_toArray, List.getElem_cons_zero, List.getElem_cons_succ, List.setIfInBounds_toArray, List.set_cons_zero, List.set_cons_succ]
      go_simp
      refine hK.out _ _ trivial (fun hHeld2 => ?_)
      clear hK K hHeld
      have hHeld := hHeld2
      clear hHeld2
      try simp only [Act.put, List.getElem_toArray, List.getElem_cons_zero, List.getElem_cons_succ, List.setIfInBounds_toArray, List.set_cons_zero, List.set_cons_succ]
      have ba : Below w2.heap.size w2 (w2.alloc (.cells #[.int .i64 769] 3)) := (Below.refl _ w2).alloc (Nat.le_refl _) _
      obtain ⟨W, hW⟩ : ∃ W, W = (w2.alloc (.cells #[.int .i64 769] 3)).alloc (.cells #[.slice (some ⟨xb, xo, none⟩) k ca, .slice (some ⟨w2.heap.size, 0, none⟩) 1 1, .slice AO (n - k) (ca - k)] 22) := ⟨_, rfl⟩
      have bb : Below (w2.alloc (.cells #[.int .i64 769] 3)).heap.size (w2.alloc (.cells #[.int .i64 769] 3)) W := by rw [hW]; exact (Below.refl _ _).alloc (Nat.le_refl _) _
      have bW : Below w2.heap.size w2 W := ba.trans (bb.mono ba.size)
      have HBW : Hid (Below w.heap.size w W) := HB2.out.trans (bW.mono HB2.out.size)
      have nb : W.heap[w2.heap.size + 1]? = some (.cells #[.slice (some ⟨xb, xo, none⟩) k ca, .slice (some ⟨w2.heap.size, 0, none⟩) 1 1, .slice AO (n - k) (ca - k)] 22 (0, 0)) := by
        rw [hW]
        have := World.alloc_heap_new (w2.alloc (.cells #[.int .i64 769] 3)) (.cells #[.slice (some ⟨xb, xo, none⟩) k ca, .slice (some ⟨w2.heap.size, 0, none⟩) 1 1, .slice AO (n - k) (ca - k)] 22)
        rwa [World.size_alloc] at this
      have HT : Hid (Tabs W t) := HT2.out.below bW
      have hdr : IV w (.slice AO (n - k) (ca - k)) (LA.drop k) := by rw [← hAO]; exact iv_drop HV.out hkn (by omega)
      have hnao : AO = none → n - k = 0 ∧ ca - k = 0 := fun e => by
        rw [← hAO] at e
        split at e
        · omega
        · cases e
      have C := concat_any (w2.heap.size + 1) k ca 1 1 (n - k) (ca - k) (some ⟨xb, xo, none⟩) (some ⟨w2.heap.size, 0, none⟩) AO (LA.take k) [769] (LA.drop k) W (cell_of_row W _ 0 _ _ _ nb) (cell_of_row W _ 1 _ _ _ nb) (cell_of_row W _ 2 _ _ _ nb) ((iv_take HV.out k hkn).below HBW.out) ((lit_iv w2 769).below bb) (hdr.below HBW.out) (by rw [List.length_take, HL.out]; omega) rfl (by rw [List.length_drop, HL.out]) (fun e => by have := HNA.out e; exact ⟨by omega, this⟩) (fun e => by cases e) hnao (by omega)
      rw [hW] at C
      clear ba bb bW nb hdr hnao hAO
      refine wpAnyH_ready (rs := [8]) (by kernel_rfl) (by simp) ?_
      refine AllReadyH.cons rfl (fun K hK => ?_) AllReadyH.nil
      try simp only [Act.put, List.getElem_toArray, List.getElem_cons_zero, List.getElem_cons_succ, List.setIfInBounds_toArray, List.set_cons_zero, List.set_cons_succ]
      go_simp
      refine C.mono ?_
      rintro e w3 ⟨lv, rfl, ho, b3⟩
      rw [← hW] at b3 ho
      clear C
      have hll : (LA.take k ++ [769] ++ LA.drop k).length = n + 1 := by rw [List.length_append, List.length_append, List.length_take, List.length_drop, HL.out]; simp; omega
      obtain ⟨xa, xc, rfl, htx⟩ := iown_txt ho hll (fun x hx => by
        rcases List.mem_append.1 hx with hx | hx
        · rcases List.mem_append.1 hx with hx | hx
          · exact HOK.out x (List.mem_of_mem_take hx)
          · rw [List.mem_singleton.1 hx]; exact okI_small (by decide) (by decide)
        · exact HOK.out x (List.mem_of_mem_drop hx)) (by omega)
      have HTX : Hid (Txt w3 xa (n + 1) xc (LA.take k ++ [769] ++ LA.drop k)) := htx
      have HB3 : Hid (Below w.heap.size w w3) := HBW.out.trans (b3.mono HBW.out.size)
      have HT3 : Hid (Tabs w3 t) := HT.out.below b3
      have HEI : Hid (∀ (V : World) (i : Int), Below w3.heap.size w3 V → Calls Tryz.prog 12 #[.pointer (some ⟨t, 0, none⟩), .slice xa (n + 1) xc, .int .i64 i] V fun e w' => e = .returned (.bool (edgeW (LA.take k ++ [769] ++ LA.drop k) i)) ∧ Below V.heap.size V w') := fun V i hb => edge_t t xa _ xc _ i V (HT3.out.below hb) (HTX.out.below hb)
      have HAW : Hid (∀ V, Below w3.heap.size w3 V → Calls Tryz.prog 15 #[] V fun e w' => e = .returned (.bool true) ∧ Below V.heap.size V w') := fun V hb => awake_any V (HE.out.below (HB3.out.trans (hb.mono HB3.out.size)))
      refine hK.out _ _ trivial (fun hHeld2 => ?_)
      clear hK K hHeld hW b3 ho htx hll HBW HT HB2 HT2
      have hHeld := hHeld2
      clear hHeld2
      try simp only [Act.put, List.getElem_toArray, List.getElem_cons_zero, List.getElem_cons_succ, List.setIfInBounds_toArray, List.set_cons_zero, List.set_cons_succ]
      refine wpAnyH_take (i := 9) (v := ?_) rfl (by kernel_rfl) (by kernel_rfl) (by kernel_rfl) (fun _ _ _ h => h) (Or.inl ⟨by rfl, ?_⟩) (by assumption) ?_
      rotate_left
      · (intro w' hSw; (try dsimp only at hSw); go_simp; try with_reducible rfl)
      try simp only [Act.put, List.getElem_toArray, List.getElem_cons_zero, List.getElem_cons_succ, List.setIfInBounds_toArray, List.set_cons_zero, List.set_cons_succ]
      refine wpAnyH_done (by kernel_rfl) ?_ _
      refine NoPanic.normal ?_
      have HTL : Hid (Txt w (some ⟨xb, xo, none⟩) n ca LA) := ⟨HV.out, by omega, hmaxa, HOK.out, by omega⟩
      clear u1 u2 u3 u3' u4 u5 hmod k2 hncap
      have C := HEI.out w3 (k : Int) (Below.refl _ _)
      rw [HM1.out] at C
      go_wp2_with fail
      refine C.mono ?_
      rintro e w4 ⟨rfl, b4⟩
      clear C
      have HB4 : Hid (Below w3.heap.size w3 w4) := b4
      clear b4
      have HEL : Hid (∀ (V : World) (i : Int), Below w3.heap.size w3 V → Calls Tryz.prog 12 #[.pointer (some ⟨t, 0, none⟩), .slice (some ⟨xb, xo, none⟩) n ca, .int .i64 i] V fun e w' => e = .returned (.bool (edgeW LA i)) ∧ Below V.heap.size V w') := fun V i hb => edge_t t _ n ca LA i V (HT3.out.below hb) (HTL.out.below (HB3.out.trans (hb.mono HB3.out.size)))
      go_wp2
      go_loopw [51] (fun i wz => ∃ q : Nat, q ≤ n ∧ i = .int .i64 (q : Int) ∧ Hid (Below w3.heap.size w3 wz)) (fun i _ => n - (RowKit.intOf i).toNat)
      case atStart => exact ⟨0, by omega, rfl, HB4⟩
      case round =>
        clear HB4
        obtain ⟨q, hq, rfl, HB⟩ := hrel
        by_cases hqn : (q : Int) < (n : Int)
        · have C := HEL.out wr (q : Int) HB.out
          obtain ⟨Z, hZ⟩ : ∃ Z, edgeW LA (q : Int) = Z := ⟨_, rfl⟩
          have wq : IntKind.i64.wrap ((q : Int) + 1) = ((q + 1 : Nat) : Int) := by rw [IntKind.wrap_i64]; omega
          by_cases hqk : (k : Int) ≤ (q : Int)
          · have hF : Hid (∀ V, Below w3.heap.size w3 V → Calls Tryz.prog 12 #[.pointer (some ⟨t, 0, none⟩), .slice xa (n + 1) xc, .int .i64 ((q + 1 : Nat) : Int)] V fun e w' => e = .returned (.bool Z) ∧ Below V.heap.size V w') := fun V hb => by
              rw [← hZ, HM3.out q (by omega) (by rw [HL.out]; omega)]
              exact HEI.out V _ hb
            rw [hZ] at C
            clear hZ
            have hZZ : (Z != Z) = false := by simp
            go_wp2_with fail
            refine C.mono ?_
            rintro e y1 ⟨rfl, by1⟩
            clear C
            have HBy : Hid (Below w3.heap.size w3 y1) := HB.out.trans (by1.mono HB.out.size)
            have C := hF.out y1 HBy.out
            clear HB by1 hF
            go_wp2_with fail
            refine C.mono ?_
            rintro e y2 ⟨rfl, by2⟩
            clear C
            have HBy2 : Hid (Below w3.heap.size w3 y2) := HBy.out.trans (by2.mono HBy.out.size)
            clear HBy by2
            go_wp2
            exact ⟨⟨q + 1, by omega, by first | rfl | simp, HBy2⟩, by simp [RowKit.intOf]; omega⟩
          · have hF : Hid (∀ V, Below w3.heap.size w3 V → Calls Tryz.prog 12 #[.pointer (some ⟨t, 0, none⟩), .slice xa (n + 1) xc, .int .i64 (q : Int)] V fun e w' => e = .returned (.bool Z) ∧ Below V.heap.size V w') := fun V hb => by
              rw [← hZ, HM2.out q (by omega)]
              exact HEI.out V _ hb
            rw [hZ] at C
            clear hZ
            have hZZ : (Z != Z) = false := by simp
            go_wp2_with fail
            refine C.mono ?_
            rintro e y1 ⟨rfl, by1⟩
            clear C
            have HBy : Hid (Below w3.heap.size w3 y1) := HB.out.trans (by1.mono HB.out.size)
            have C := hF.out y1 HBy.out
            clear HB by1 hF
            go_wp2_with fail
            refine C.mono ?_
            rintro e y2 ⟨rfl, by2⟩
            clear C
            have HBy2 : Hid (Below w3.heap.size w3 y2) := HBy.out.trans (by2.mono HBy.out.size)
            clear HBy by2
            go_wp2
            exact ⟨⟨q + 1, by omega, by first | rfl | simp, HBy2⟩, by simp [RowKit.intOf]; omega⟩
        · have HBZ : Hid (Below w.heap.size w wr) := HB3.out.trans (HB.out.mono HB3.out.size)
          clear HB
          have C := awake_any wr (HE.out.below HBZ.out)
          go_wp2_with fail
          refine C.mono ?_
          rintro e wq ⟨rfl, bq⟩
          clear C
          have HBq : Hid (Below w.heap.size w wq) := HBZ.out.trans (bq.mono HBZ.out.size)
          clear bq
          go_wp2
          try rw [Exit.noGoto_ret]
          go_ret
          exact ⟨rfl, HBq.out⟩
    · have HQ : Hid ((kw x == 9) = false) := by show _ = _; exact beq_eq_false_iff_ne.2 h9
      clear h9 hat hla cx0 hx hj h0
      generalize kw x = a at *
      go_wp2_with fail
      refine C.mono ?_
      rintro e wa ⟨⟨A, rfl, hA⟩, ba⟩
      clear C
      have q9 := hA.n9
      rw [HQ.out] at q9
      have HB1a : Hid (Below w.heap.size w wa) := HB1.out.trans (ba.mono HB1.out.size)
      clear hA ba HB1 HT1 cx
      have C := awake_any wa (HE.out.below HB1a.out)
      go_wp2_with fail
      refine C.mono ?_
      rintro e wq ⟨rfl, bq⟩
      clear C
      have HBq : Hid (Below w.heap.size w wq) := HB1a.out.trans (bq.mono HB1a.out.size)
      clear bq
      go_wp2
      try rw [Exit.noGoto_ret]
      go_ret
      exact ⟨rfl, HBq.out⟩
end Go.Proofs.YtcmhkfiijdomiaaGreatDoor.wrd
end
