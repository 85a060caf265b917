/- Texts that the proof leans on, one behind the other. -/
import Derived.Test.YtfknljjbdofjjabGreatDoorBdNrm2

section
/- NormTwice, NormOrders: the walks. -/
set_option linter.unusedVariables false
set_option linter.unusedSimpArgs false
namespace Go.Proofs.YtfknljjbdofjjabGreatDoor.nrm
open Go.Shelf Go.RowKit Go.Lib Go.Sort Go.Proofs
open Go.Proofs.YtfknljjbdofjjabGreatDoor.prp Go.Proofs.YtfknljjbdofjjabGreatDoor.nfd Go.Proofs.YtfknljjbdofjjabGreatDoor.lin Go.Proofs.YtfknljjbdofjjabGreatDoor.dcp

theorem full_flat {l : List Int} (h : ∀ x ∈ l, fullL x = [x]) : l.flatMap fullL = l := by
  induction l with
  | nil => rfl
  | cons x l ih => rw [List.flatMap_cons, h x (by simp), ih fun y hy => h y (by simp [hy])]; rfl
theorem nfdR_ends (l : List Int) : ∀ x ∈ nfdR l, fullL x = [x] := fun x hx => by
  unfold nfdR at hx
  rw [mem_ordL] at hx
  obtain ⟨r, _, hx⟩ := List.mem_flatMap.1 hx
  exact full_end r x hx
theorem nfdR_twice (l : List Int) : nfdR (nfdR l) = nfdR l := by
  have h1 : nfdR (nfdR l) = ordL ccc (nfdR l) := by
    show ordL ccc ((nfdR l).flatMap fullL) = _
    rw [full_flat (nfdR_ends l)]
  rw [h1]
  exact ordL_twice ccc _
theorem nfdR_joins (a b : List Int) : nfdR (nfdR a ++ nfdR b) = nfdR (a ++ b) := by
  have h1 : nfdR (nfdR a ++ nfdR b) = ordL ccc (nfdR a ++ nfdR b) := by
    show ordL ccc ((nfdR a ++ nfdR b).flatMap fullL) = _
    rw [full_flat fun x hx => (List.mem_append.1 hx).elim (nfdR_ends a x) (nfdR_ends b x)]
  rw [h1]
  show ordL ccc (ordL ccc (a.flatMap fullL) ++ ordL ccc (b.flatMap fullL)) = ordL ccc ((a ++ b).flatMap fullL)
  rw [ordL_joins, List.flatMap_append]
theorem nfdR_ge (l : List Int) : l.length ≤ (nfdR l).length := by
  unfold nfdR
  rw [len_ordL]
  induction l with
  | nil => simp
  | cons x l ih => rw [List.flatMap_cons, List.length_append, List.length_cons]; have := full_pos x; omega
theorem nfdR_le (l : List Int) : (nfdR l).length ≤ l.length * 9 := by
  unfold nfdR
  rw [len_ordL]
  exact flat_len l fun x _ => full_len x
theorem full_oks (r : Int) (hr : okI r) : ∀ x ∈ fullL r, okI x := by
  intro x hx
  by_cases h : dp r = []
  · rw [full_leaf h] at hx; simp at hx; subst hx; exact hr
  · rw [full_node h] at hx
    obtain ⟨p, hp, hx⟩ := List.mem_flatMap.1 hx
    by_cases h2 : dp p = []
    · rw [full_leaf h2] at hx; simp at hx; subst hx; exact dp_ok r x hp
    · rw [full_node h2] at hx
      obtain ⟨q, hq, hx⟩ := List.mem_flatMap.1 hx
      rw [full_leaf (deep r p hp q hq)] at hx
      simp at hx
      subst hx
      exact dp_ok p x hq
theorem nfdR_ok {l : List Int} (h : ∀ x ∈ l, okI x) : ∀ x ∈ nfdR l, okI x := fun x hx => by
  unfold nfdR at hx
  rw [mem_ordL] at hx
  obtain ⟨r, hr, hx⟩ := List.mem_flatMap.1 hx
  exact full_oks r (h r hr) x hx
theorem awake_nfd : nfdR [97, 769, 803] = [97, 803, 769] := by decide +kernel
set_option maxRecDepth 1000000 in
theorem awake_any (w : World) (E : Env w) : Calls Tryz.prog 17 #[] w fun e w' => e = .returned (.bool true) ∧ Below w.heap.size w w' := by
  have C := load_any w E
  clear E
  go_enter Tryz.func17, Tryz.ntmps17
  go_wp2_with fail
  refine C.mono ?_
  rintro e w1 ⟨t, rfl, ht, b1⟩
  clear C
  have W1b := (Below.refl w1.heap.size w1).alloc (Nat.le_refl _) (.cells #[.int .i64 97, .int .i64 769, .int .i64 803] 3)
  have hv1 : IV (w1.alloc (.cells #[.int .i64 97, .int .i64 769, .int .i64 803] 3)) (.slice (some ⟨w1.heap.size, 0, none⟩) 3 3) [97, 769, 803] :=
    IOwn.iv (base := 0) (World.ownsRow_lit (base := 0) (e := 3) (size := 1) w1 #[.int .i64 97, .int .i64 769, .int .i64 803] 3 (Nat.zero_le _) (by unfold maxLen; omega) rfl)
  have C := runes_any t _ [97, 769, 803] _ (ht.below W1b) hv1 (by intro x hx; simp at hx; unfold okI; omega) (by simp)
  rw [awake_nfd] at C
  have HB1 : Hid (Below w.heap.size w (w1.alloc (.cells #[.int .i64 97, .int .i64 769, .int .i64 803] 3))) := b1.trans (W1b.mono b1.size)
  clear ht hv1 W1b b1
  go_wp2_with fail
  refine C.mono ?_
  rintro e w3 ⟨v, rfl, ho, b3⟩
  clear C
  have hv := ho.iv
  obtain ⟨a, c, rfl, _⟩ := id hv
  have W3b := (Below.refl w3.heap.size w3).alloc (Nat.le_refl _) (.cells #[.int .i64 97, .int .i64 803, .int .i64 769] 3)
  have hv2 : IV (w3.alloc (.cells #[.int .i64 97, .int .i64 803, .int .i64 769] 3)) (.slice (some ⟨w3.heap.size, 0, none⟩) 3 3) [97, 803, 769] :=
    IOwn.iv (base := 0) (World.ownsRow_lit (base := 0) (e := 3) (size := 1) w3 #[.int .i64 97, .int .i64 803, .int .i64 769] 3 (Nat.zero_le _) (by unfold maxLen; omega) rfl)
  have D := iequal_any _ _ [97, 803, 769] _ (hv.below W3b) hv2 (by decide)
  rw [show ([97, 803, 769] : List Int).length = 3 from rfl] at D
  have HB : Hid (Below w.heap.size w (w3.alloc (.cells #[.int .i64 97, .int .i64 803, .int .i64 769] 3))) := HB1.out.trans ((b3.trans (W3b.mono b3.size)).mono HB1.out.size)
  clear hv hv2 ho W3b b3
  simp only [List.length_cons, List.length_nil, Nat.zero_add, Nat.reduceAdd] at *
  go_wp2_with fail
  refine D.mono ?_
  rintro e w4 ⟨rfl, b4⟩
  clear D
  go_wp2
  go_ret
  exact ⟨rfl, HB.out.trans (b4.mono HB.out.size)⟩
set_option maxRecDepth 1000000 in
theorem made_t (t : Nat) (w : World) (h : Tabs w t) : Calls Tryz.prog 41 #[.pointer (some ⟨t, 0, none⟩)] w fun e w' => e = .returned (.bool true) ∧ Below w.heap.size w w' := by
  have C := category_t t 0 w h
  rw [cat_zero] at C
  have hq : (BA [67, 99]).toList = [67, 99] := by rw [Lib.toList_data, BA_data]
  clear h
  go_enter Tryz.func41, Tryz.ntmps41
  go_wp2_with fail
  refine C.mono ?_
  rintro e w1 ⟨rfl, hb⟩
  clear C
  go_wp2
  go_ret
  exact ⟨rfl, hb⟩
set_option maxRecDepth 1000000 in
theorem is_true (t : Nat) (v : Value) (l : List Int) (w : World) (hT : Tabs w t) (hv : IV w v l) (hok : ∀ x ∈ l, okI x) (hl : l.length ≤ 10000) (hn : nfdR l = l) :
    Calls Tryz.prog 15 #[.pointer (some ⟨t, 0, none⟩), v] w fun e w' => e = .returned (.bool true) ∧ Below w.heap.size w w' := by
  have C := made_t t w hT
  have HR : Hid (∀ W, Below w.heap.size w W → Calls Tryz.prog 13 #[.pointer (some ⟨t, 0, none⟩), v] W fun e w' => ∃ v, e = .returned v ∧ IOwn w' W.heap.size v l ∧ Below W.heap.size W w') := fun W hb => by have := runes_any t v l W (hT.below hb) (hv.below hb) hok (by omega); rw [hn] at this; exact this
  have HV : Hid (IV w v l) := hv
  obtain ⟨a, c, rfl, _⟩ := hv
  generalize hln : l.length = n at *
  clear hT hn
  go_enter Tryz.func15, Tryz.ntmps15
  go_wp2_with fail
  refine C.mono ?_
  rintro e w1 ⟨rfl, b1⟩
  clear C
  have C := HR.out w1 b1
  have HB1 : Hid (Below w.heap.size w w1) := b1
  clear b1 HR
  go_wp2_with fail
  refine C.mono ?_
  rintro e w2 ⟨v2, rfl, ho, b2⟩
  clear C
  have HB2 : Hid (Below w.heap.size w w2) := HB1.out.trans (b2.mono HB1.out.size)
  have D := iequal_any v2 (.slice a n c) l w2 ho.iv (HV.out.below HB2.out) (by omega)
  obtain ⟨a2, c2, hv2⟩ := own_slice ho
  rw [hln] at hv2
  subst hv2
  clear ho b2
  go_wp2_with fail
  refine D.mono ?_
  rintro e w3 ⟨rfl, b3⟩
  have R : Hid (Below w.heap.size w w3) := HB2.out.trans (b3.mono HB2.out.size)
  clear D b3
  go_wp2
  go_ret
  exact ⟨rfl, R.out⟩
set_option maxHeartbeats 1000000 in
set_option maxRecDepth 1000000 in
theorem twice_walk (v : Value) (l : List Int) (w : World) (h : ArgC w v l) (E : Env w) : Calls Tryz.prog 4 #[v] w fun e w' => e = .returned (.bool true) ∧ Below w.heap.size w w' := by
  have HE : Hid (Env w) := E
  have HA : Hid (ArgC w v l) := h
  have C := load_any w E
  obtain ⟨ao, cap, rfl, hcells, hok, hcap, hmax, hnil⟩ := h
  obtain ⟨n, hn⟩ : ∃ n, min l.length 200 = n := ⟨_, rfl⟩
  have hnl : n ≤ l.length := by omega
  have hn200 : n ≤ 200 := by omega
  have HV : Hid (IV w (.slice ao n cap) (l.take n)) := HA.out.take n hnl
  have hlen : (l.take n).length = n := by rw [List.length_take]; omega
  have hok2 : ∀ x ∈ l.take n, okI x := fun x hx => hok x (List.mem_of_mem_take hx)
  have HOK : Hid (∀ x ∈ l.take n, okI x) := hok2
  have hmin : min (l.length : Int) 200 = (n : Int) := by omega
  have hmin2 : (if (l.length : Int) < 200 then (l.length : Int) else 200) = (n : Int) := by split <;> omega
  have hmin3 : (if (200 : Int) < (l.length : Int) then 200 else (l.length : Int)) = (n : Int) := by split <;> omega
  have hmin4 : (if (l.length : Int) ≤ 200 then (l.length : Int) else 200) = (n : Int) := by split <;> omega
  have hncap : (n : Int) ≤ (cap : Int) := by omega
  have hn0 : (0 : Int) ≤ (n : Int) := by omega
  generalize hLN : l.take n = LN at *
  generalize l.length = ll at *
  clear hcells hok hok2 hLN HA E hnil hn
  go_enter Tryz.func4, Tryz.ntmps4
  go_wp2_with fail
  refine C.mono ?_
  rintro e w1 ⟨t, rfl, ht, b1⟩
  clear C
  have HT1 : Hid (Tabs w1 t) := ht
  have HB1 : Hid (Below w.heap.size w w1) := b1
  have C := runes_any t (.slice ao n cap) LN w1 ht (HV.out.below b1) HOK.out (by omega)
  have hge := nfdR_ge LN
  have hle := nfdR_le LN
  have HOM : Hid (∀ x ∈ nfdR LN, okI x) := nfdR_ok HOK.out
  have HTW : Hid (nfdR (nfdR LN) = nfdR LN) := nfdR_twice LN
  rw [hlen] at hge hle
  clear ht b1
  go_wp2_with fail
  refine C.mono ?_
  rintro e w2 ⟨v2, rfl, ho, b2⟩
  clear C
  have HT2 : Hid (Tabs w2 t) := HT1.out.below b2
  have HB2 : Hid (Below w.heap.size w w2) := HB1.out.trans (b2.mono HB1.out.size)
  have HM : Hid (IV w2 v2 (nfdR LN)) := ho.iv
  obtain ⟨ma, mc, hm⟩ := own_slice ho
  subst hm
  generalize nfdR LN = M at *
  clear ho b2 HT1 HB1
  obtain ⟨mn, hmn⟩ : ∃ mn, M.length = mn := ⟨_, rfl⟩
  rw [hmn] at hge hle HM ⊢
  have C := runes_any t (.slice ma mn mc) M w2 HT2.out HM.out HOM.out (by omega)
  rw [HTW.out] at C
  have HMN : Hid (M.length = mn) := hmn
  clear hmn
  go_wp2_with fail
  refine C.mono ?_
  rintro e w3 ⟨v3, rfl, ho, b3⟩
  clear C
  have HT3 : Hid (Tabs w3 t) := HT2.out.below b3
  have HB3 : Hid (Below w.heap.size w w3) := HB2.out.trans (b3.mono HB2.out.size)
  have HM3 : Hid (IV w3 (.slice ma mn mc) M) := HM.out.below b3
  have C := iequal_any v3 (.slice ma mn mc) M w3 ho.iv HM3.out (by have := HMN.out; omega)
  obtain ⟨a3, c3, h3⟩ := own_slice ho
  rw [HMN.out] at h3
  subst h3
  clear ho b3 HT2 HB2 HM
  go_wp2_with fail
  refine C.mono ?_
  rintro e w4 ⟨rfl, b4⟩
  clear C
  have HB4 : Hid (Below w.heap.size w w4) := HB3.out.trans (b4.mono HB3.out.size)
  have C := is_true t (.slice ma mn mc) M w4 (HT3.out.below b4) (HM3.out.below b4) HOM.out (by have := HMN.out; omega) HTW.out
  clear b4 HB3
  go_wp2_with fail
  refine C.mono ?_
  rintro e w5 ⟨rfl, b5⟩
  clear C
  have HB5 : Hid (Below w.heap.size w w5) := HB4.out.trans (b5.mono HB4.out.size)
  have C := awake_any w5 (HE.out.below HB5.out)
  have hgz : (mn : Int) ≥ (n : Int) := by omega
  have hgz' : (n : Int) ≤ (mn : Int) := by omega
  clear b5 HB4
  go_wp2_with fail
  refine C.mono ?_
  rintro e w6 ⟨rfl, b6⟩
  have R : Hid (Below w.heap.size w w6) := HB5.out.trans (b6.mono HB5.out.size)
  clear C b6
  go_wp2
  go_ret
  exact ⟨rfl, R.out⟩
set_option maxHeartbeats 1000000 in
set_option maxRecDepth 1000000 in
theorem orders_walk (v : Value) (l : List Int) (w : World) (h : ArgC w v l) (E : Env w) : Calls Tryz.prog 6 #[v] w fun e w' => e = .returned (.bool true) ∧ Below w.heap.size w w' := by
  have HE : Hid (Env w) := E
  have HA : Hid (ArgC w v l) := h
  have C := load_any w E
  obtain ⟨ao, cap, rfl, hcells, hok, hcap, hmax, hnil⟩ := h
  obtain ⟨n, hn⟩ : ∃ n, min l.length 200 = n := ⟨_, rfl⟩
  have hnl : n ≤ l.length := by omega
  have hn200 : n ≤ 200 := by omega
  have HV : Hid (IV w (.slice ao n cap) (l.take n)) := HA.out.take n hnl
  have hlen : (l.take n).length = n := by rw [List.length_take]; omega
  have hok2 : ∀ x ∈ l.take n, okI x := fun x hx => hok x (List.mem_of_mem_take hx)
  have HOK : Hid (∀ x ∈ l.take n, okI x) := hok2
  have hmin : min (l.length : Int) 200 = (n : Int) := by omega
  have hmin2 : (if (l.length : Int) < 200 then (l.length : Int) else 200) = (n : Int) := by split <;> omega
  have hmin3 : (if (200 : Int) < (l.length : Int) then 200 else (l.length : Int)) = (n : Int) := by split <;> omega
  have hmin4 : (if (l.length : Int) ≤ 200 then (l.length : Int) else 200) = (n : Int) := by split <;> omega
  have hncap : (n : Int) ≤ (cap : Int) := by omega
  have hn0 : (0 : Int) ≤ (n : Int) := by omega
  generalize hLN : l.take n = LN at *
  generalize l.length = ll at *
  clear hcells hok hok2 hLN HA E hnil hn
  go_enter Tryz.func6, Tryz.ntmps6
  go_wp2_with fail
  refine C.mono ?_
  rintro e w1 ⟨t, rfl, ht, b1⟩
  clear C
  have HT1 : Hid (Tabs w1 t) := ht
  have HB1 : Hid (Below w.heap.size w w1) := b1
  have C := runes_any t (.slice ao n cap) LN w1 ht (HV.out.below b1) HOK.out (by omega)
  have hle := nfdR_le LN
  have HAD : Hid (∀ i g h, (nfdR LN)[i]? = some g → (nfdR LN)[i + 1]? = some h → ¬ (0 < ccc h ∧ ccc h < ccc g)) := fun i g h h1 h2 => ordL_adj ccc _ i g h h1 h2
  rw [hlen] at hle
  clear ht b1
  go_wp2_with fail
  refine C.mono ?_
  rintro e w2 ⟨v2, rfl, ho, b2⟩
  clear C
  have HT2 : Hid (Tabs w2 t) := HT1.out.below b2
  have HB2 : Hid (Below w.heap.size w w2) := HB1.out.trans (b2.mono HB1.out.size)
  obtain ⟨ma, mc, rfl, hcl⟩ := ho.iv
  generalize nfdR LN = M at *
  have HC : Hid (∀ j, j < M.length → ∃ r b o, M[j]? = some r ∧ ma = some ⟨b, o, none⟩ ∧ w2.cell? ⟨b, o + j, none⟩ = some (.int .i64 r)) := fun j hj => by
    obtain ⟨b, o, e, hc⟩ := hcl (by omega)
    exact ⟨M[j], b, o, List.getElem?_eq_getElem hj, e, by rw [hc j hj, List.getD_eq_getElem?_getD, List.getElem?_eq_getElem hj]; rfl⟩
  clear ho b2 HT1 HB1 hcl
  generalize M.length = mn at *
  obtain ⟨cf, hcf⟩ : ∃ cf : Int → Int, cf = ccc := ⟨_, rfl⟩
  have HCF : Hid (cf = ccc) := hcf
  rw [← hcf] at HAD
  have HCM : Hid (∀ r W, Tabs W t → Calls Tryz.prog 19 #[.pointer (some ⟨t, 0, none⟩), .int .i64 r] W fun e w' => e = .returned (.int .i64 (cf r)) ∧ Below W.heap.size W w') := fun r W h => by rw [hcf]; exact combining_t t r W h
  clear hcf
  go_wp2
  go_loopw [4, 18] (fun c i wr => ∃ (j : Nat) (la : Int), j ≤ mn ∧ c = .int .i64 la ∧ i = .int .i64 j ∧ Hid (la = 0 ∨ ∃ g, 0 < j ∧ M[j - 1]? = some g ∧ la = cf g) ∧ Hid (Below w2.heap.size w2 wr)) (fun _ i _ => mn - (RowKit.intOf i).toNat)
  case atStart => exact ⟨0, 0, Nat.zero_le _, rfl, rfl, .inl rfl, Below.refl _ _⟩
  case round =>
    obtain ⟨j, la, hj, rfl, rfl, HLA, HB⟩ := hrel
    by_cases hlt : j < mn
    · have hlt' : (j : Int) < (mn : Int) := by omega
      obtain ⟨r, b, o, hx, rfl, hc⟩ := HC.out j hlt
      have hc1 := cell_below HB.out hc
      have C := HCM.out r wr (HT2.out.below HB.out)
      have hbad : ¬ (0 < cf r ∧ cf r < la) := by
        rcases HLA.out with h0 | ⟨g, h0, h1, h2⟩
        · rw [h0]; omega
        · rw [h2]; exact HAD.out (j - 1) g r h1 (by rw [show j - 1 + 1 = j by omega]; exact hx)
      have HX : Hid (M[j]? = some r) := hx
      clear hx hc HLA
      go_wp2_with fail
      refine C.mono ?_
      rintro e w3 ⟨rfl, b3⟩
      have R2 : Hid (Below w2.heap.size w2 w3) := HB.out.trans (b3.mono HB.out.size)
      have R1 : Hid (cf r = 0 ∨ ∃ g, 0 < j + 1 ∧ M[j + 1 - 1]? = some g ∧ cf r = cf g) := .inr ⟨r, by omega, by rw [Nat.add_sub_cancel]; exact HX.out, rfl⟩
      clear C b3 HB
      by_cases hp : 0 < cf r
      · have hp1 : cf r > 0 := hp
        have hp2 : ¬ cf r < la := fun h => hbad ⟨hp, h⟩
        generalize hcr : cf r = cr at *
        clear hbad hcr
        go_wp2
        go_roundw
        case rel => exact ⟨j + 1, cr, by omega, rfl, by go_num, R1, R2⟩
        case measure => simp [RowKit.intOf]; omega
      · have hp1 : ¬ cf r > 0 := hp
        generalize hcr : cf r = cr at *
        clear hbad hcr
        go_wp2
        go_roundw
        case rel => exact ⟨j + 1, cr, by omega, rfl, by go_num, R1, R2⟩
        case measure => simp [RowKit.intOf]; omega
    · have hlt' : ¬ (j : Int) < (mn : Int) := by omega
      have HB5 : Hid (Below w.heap.size w wr) := HB2.out.trans (HB.out.mono HB2.out.size)
      have C := awake_any wr (HE.out.below HB5.out)
      go_wp2_with fail
      refine C.mono ?_
      rintro e w6 ⟨rfl, b6⟩
      have R : Hid (Below w.heap.size w w6) := HB5.out.trans (b6.mono HB5.out.size)
      clear C b6
      go_wp2
      go_ret
      exact ⟨rfl, R.out⟩
end Go.Proofs.YtfknljjbdofjjabGreatDoor.nrm
end
