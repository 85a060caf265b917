/- Texts that the proof leans on, one behind the other. -/
import Derived.Test.YtlidgjkipbijlaaGreatDoorBdItm4
import Derived.Test.YtlidgjkipbijlaaGreatDoorBdUtf3
import Derived.Test.YtlidgjkipbijlaaGreatDoorBdUtf2
import Derived.Test.YtlidgjkipbijlaaGreatDoorBdNrm5

section
/- The bytes of code points; what they decode to; the statement's own closure. -/
set_option linter.unusedVariables false
set_option linter.unusedSimpArgs false
namespace Go.Proofs.YtlidgjkipbijlaaGreatDoor.itm
open Go.RowKit Go.Shelf nrm prp
open Go.Proofs.YtlidgjkipbijlaaGreatDoor.utf (IsB lst)

/-- The bytes of code points. -/
def textL (l : List Int) : List Int := l.flatMap utf.enc
def fT (l : List Int) : Nat → Int := fun i => (textL l).getD i 0
def Good (l : List Int) : Prop := ∀ r ∈ l, utf.len r ≠ 0
theorem text_cons (r : Int) (l : List Int) : textL (r :: l) = utf.enc r ++ textL l := by unfold textL; rw [List.flatMap_cons]
theorem text_snoc (l : List Int) (r : Int) : textL (l ++ [r]) = textL l ++ utf.enc r := by unfold textL; rw [List.flatMap_append]; simp
theorem text_len {l : List Int} (h : Good l) : (textL l).length ≤ l.length * 4 := by
  induction l with
  | nil => exact Nat.le_refl _
  | cons r l ih =>
    have h1 := utf.enc_pos r (h r List.mem_cons_self)
    have h2 := ih (fun x hx => h x (List.mem_cons_of_mem _ hx))
    rw [text_cons, List.length_append, List.length_cons]
    omega
theorem fT_cons (r : Int) (l : List Int) : fT (r :: l) = utf.both (fun i => (utf.enc r).getD i 0) (fT l) (utf.enc r).length := by
  funext i
  unfold fT utf.both
  rw [text_cons, List.getD_eq_getElem?_getD]
  by_cases h : i < (utf.enc r).length
  · rw [if_pos h, List.getElem?_append_left h, ← List.getD_eq_getElem?_getD]
  · rw [if_neg h, List.getElem?_append_right (by omega), ← List.getD_eq_getElem?_getD]
theorem text_items {l : List Int} (h : Good l) : (utf.items (fT l) (textL l).length 0).map (·.1) = l := by
  induction l with
  | nil => rw [utf.items_end (fT []) (textL []).length 0 (show (textL []).length ≤ 0 from Nat.le_refl _)]; rfl
  | cons r l ih =>
    have hr := h r List.mem_cons_self
    rw [fT_cons, text_cons, List.length_append, utf.items_both _ _ _ _ (utf.valid_enc r hr), utf.items_enc r hr, List.map_append]
    have h2 := ih (fun x hx => h x (List.mem_cons_of_mem _ hx))
    have h3 : (utf.shift (utf.enc r).length (utf.items (fT l) (textL l).length 0)).map (·.1) = (utf.items (fT l) (textL l).length 0).map (·.1) := by
      unfold utf.shift
      rw [List.map_map]
      rfl
    rw [h3, h2]
    rfl
theorem text_dec {l : List Int} (h : Good l) : (decI (fT l) (textL l).length).map (·.1) = l := by
  have := text_items h
  unfold decI
  rw [List.map_map]
  exact this
theorem nfd_fst (l : List nfd.I) : (nfdI l).map (·.1) = nfdR (l.map (·.1)) := by
  unfold nfdI nfdR
  rw [← nfd.ordL_map ccc kI (·.1) (fun x => rfl)]
  congr 1
  unfold apL
  rw [List.flatMap_map, List.map_flatMap]
  congr 1
  funext r
  simp [part3, Function.comp_def]
/-- The code points of a subject, as NFD, of the bytes of code points. -/
theorem text_runes {l : List Int} (h : Good l) : (itemsL true (fT l) (textL l).length).map (·.1) = nfdR l := by
  show (nfdI (decI (fT l) (textL l).length)).map (·.1) = _
  rw [nfd_fst, text_dec h]
theorem text_range (l : List Int) : ∀ i, 0 ≤ fT l i ∧ fT l i ≤ 255 := by
  induction l with
  | nil => intro i; unfold fT textL; simp
  | cons r l ih =>
    intro i
    rw [fT_cons]
    unfold utf.both
    split
    · exact utf.enc_range r i
    · exact ih _
theorem len_ok {r : Int} (h : 0 ≤ r ∧ r ≤ 1114111 ∧ ¬ (55296 ≤ r ∧ r ≤ 57343)) : utf.len r ≠ 0 := by
  unfold utf.len
  (repeat' split) <;> omega
theorem dp_good (r : Int) : ∀ p ∈ dcp.dp r, utf.len p ≠ 0 := by
  have dec : ∀ x ∈ decL, ∀ p ∈ dcp.dp x.1, 0 ≤ p ∧ p ≤ 1114111 ∧ ¬ (55296 ≤ p ∧ p ≤ 57343) := by decide +kernel
  intro p hp
  refine len_ok ?_
  rcases dcp.dp_cases r with h | h | ⟨x, hx, rfl⟩
  · rw [h] at hp; simp at hp
  · rw [dcp.dp_syl h] at hp; have := dcp.syl_jamo h p hp; omega
  · exact dec x hx p hp
theorem full_good {r : Int} (hr : utf.len r ≠ 0) : ∀ x ∈ dcp.fullL r, utf.len x ≠ 0 := by
  intro x hx
  by_cases h : dcp.dp r = []
  · rw [dcp.full_leaf h] at hx; simp at hx; subst hx; exact hr
  · rw [dcp.full_node h] at hx
    obtain ⟨p, hp, hx⟩ := List.mem_flatMap.1 hx
    by_cases h2 : dcp.dp p = []
    · rw [dcp.full_leaf h2] at hx; simp at hx; subst hx; exact dp_good r x hp
    · rw [dcp.full_node h2] at hx
      obtain ⟨q, hq, hx⟩ := List.mem_flatMap.1 hx
      rw [dcp.full_leaf (dcp.deep r p hp q hq)] at hx
      simp at hx
      subst hx
      exact dp_good p x hq
theorem nfd_good {l : List Int} (h : Good l) : Good (nfdR l) := fun x hx => by
  unfold nfdR at hx
  rw [nfd.mem_ordL] at hx
  obtain ⟨r, hr, hx⟩ := List.mem_flatMap.1 hx
  exact full_good (h r hr) x hx
theorem enc_news0 (w : World) (r : Int) : ∀ (j : Nat) (u : Value), ((utf.enc r).map (Value.int .u8))[j]? = some u → (w.alloc (utf.encBlock r)).cell? ((⟨w.heap.size, 0, none⟩ : Addr).add j) = some u := by
  intro j u hj
  rw [Addr.add_lit, Nat.zero_add]
  have := cell_of_row _ _ j _ _ _ (World.alloc_heap_new w (utf.encBlock r))
  rw [this]
  simpa using hj
/-- A row of bytes of code points as an argument. -/
theorem text_arg {w : World} {B : Nat} {v : Value} {l : List Int} (h : w.ownsRow B 5 1 v (textL l).length ((textL l).map (Value.int .u8))) : ArgB w v (textL l).length (fT l) := by
  have e : lst (fT l) (textL l).length = textL l := by
    apply List.ext_getElem?
    intro i
    unfold lst fT
    rw [List.getElem?_map]
    by_cases hi : i < (textL l).length
    · rw [List.getElem?_range hi]
      simp [List.getD_eq_getElem?_getD, List.getElem?_eq_getElem hi]
    · rw [List.getElem?_eq_none (by simpa using hi), List.getElem?_eq_none (by omega)]
      rfl
  rw [← e, utf.lst_length] at h
  have hn : (lst (fT l) (textL l).length).length = (textL l).length := utf.lst_length _ _
  rcases id h.2 with ⟨rfl, h0⟩ | ⟨g, cap, cur, rfl, _, _, hc, hm, _⟩
  · rw [h0]
    exact ⟨none, 0, rfl, .inl rfl, text_range l, Nat.le_refl _, by omega, fun _ => ⟨rfl, rfl⟩⟩
  · obtain ⟨ao, cap', ev, hib, h1, h2, h3⟩ := utf.isB_own h
    injection ev with e1 e2 e3
    subst e1
    unfold maxLen at hm
    exact ⟨_, cap, rfl, hib, text_range l, hc, by omega, fun e => by cases e⟩

set_option maxHeartbeats 2000000 in
set_option maxRecDepth 1000000 in
theorem text_any (v : Value) (l : List Int) (w : World) (hv : IV w v l) (hg : Good l) (hl : l.length ≤ 10000) :
    Calls Tryz.prog 26 #[v] w fun e w' => ∃ v', e = .returned v' ∧ w'.ownsRow w.heap.size 5 1 v' (textL l).length ((textL l).map (Value.int .u8)) ∧ Below w.heap.size w w' := by
  obtain ⟨i0, hi, hz0, hz1, hz2⟩ := rng.info_parts utf.infoByte
  obtain ⟨ao, cap, rfl, hcells⟩ := hv
  have HC : Hid (∀ k, k < l.length → ∃ x b o, ao = some ⟨b, o, none⟩ ∧ w.cell? ⟨b, o + k, none⟩ = some (.int .i64 x) ∧ utf.len x ≠ 0 ∧ textL (l.take (k + 1)) = textL (l.take k) ++ utf.enc x ∧ (textL (l.take k)).length ≤ k * 4) := fun k hk => by
    obtain ⟨b, o, e, hc⟩ := hcells (by omega)
    have h1 := hc k hk
    rw [List.getD_eq_getElem?_getD, List.getElem?_eq_getElem hk] at h1
    refine ⟨l[k], b, o, e, h1, hg _ (List.getElem_mem hk), ?_, ?_⟩
    · rw [List.take_succ_eq_append_getElem hk, text_snoc]
    · have := text_len (l := l.take k) (fun r hr => hg r (List.mem_of_mem_take hr))
      rw [List.length_take] at this
      omega
  obtain ⟨N, hN⟩ : ∃ N, l.length = N := ⟨_, rfl⟩
  have HT : Hid (textL (l.take N) = textL l) := by show _ = _; rw [List.take_of_length_le (by omega)]
  rw [hN] at HC hl
  rw [hN]
  clear hcells hN hg
  go_enter Tryz.func26, Tryz.ntmps26
  go_wp2
  go_loopw [3, 10] (fun v i wr => ∃ k : Nat, k ≤ N ∧ i = .int .i64 k ∧ Hid (wr.ownsRow w.heap.size 5 1 v (textL (l.take k)).length ((textL (l.take k)).map (Value.int .u8))) ∧ Hid (Below w.heap.size w wr)) (fun _ i _ => N - (RowKit.intOf i).toNat)
  case atStart => exact ⟨0, Nat.zero_le _, rfl, World.ownsRow_nil _ _ _ _, Below.refl _ _⟩
  case round =>
    obtain ⟨k, hk, rfl, HO, HB⟩ := hrel
    by_cases hlt : k < N
    · have hlt' : (k : Int) < (N : Int) := by omega
      have hk0 : (0 : Int) ≤ (k : Int) := by omega
      obtain ⟨x, b, o, rfl, d1, hx, htk, htl⟩ := HC.out k hlt
      have f1 := cell_below HB.out d1
      have EN := utf.renc_yes x wr hx
      have hep := utf.enc_pos x hx
      have HNW : Hid (∀ (j : Nat) (u : Value), ((utf.enc x).map (Value.int .u8))[j]? = some u → (wr.alloc (utf.encBlock x)).cell? ((⟨wr.heap.size, 0, none⟩ : Addr).add j) = some u) := enc_news0 wr x
      have HTK : Hid (textL (l.take (k + 1)) = textL (l.take k) ++ utf.enc x) := htk
      have hsz := HB.out.size
      have HO2 : Hid ((wr.alloc (utf.encBlock x)).ownsRow w.heap.size 5 1 u3 (textL (l.take k)).length ((textL (l.take k)).map (Value.int .u8))) := World.ownsRow.alloc HO.out _
      have HB2 : Hid (Below w.heap.size w (wr.alloc (utf.encBlock x))) := HB.out.alloc hsz _
      have HV : Hid (∀ k, u3.ownBlock = some k → w.heap.size ≤ k) := fun k e => (HO.out.lt _ e).1
      obtain ⟨ya, yc, rfl⟩ := lin.own_slice HO.out
      clear HO HB d1 htk hx
      generalize textL (l.take k) = BL at *
      go_wp2_with fail
      refine EN.mono ?_
      rintro e w2 ⟨rfl, rfl⟩
      generalize hX : utf.encBlock x = X at *
      clear hX EN
      go_wp2_with (at_builtin; refine wpList_append_own _ rfl _ _ 22 rfl w.heap.size 5 i0 (.int .u8 0) 1 1 Tryz.underlying22 hi hz0 hz1 hz2 rfl (by decide) _ _ _ rfl HO2.out ⟨wr.heap.size, 0, none⟩ (utf.enc x).length (utf.enc x).length ((utf.enc x).map (Value.int .u8)) rfl ?c0 ?c1 ?c2 ?c3 ?c4 ?c5 ?_)
      case c0 => simp
      case c1 => exact HNW.out
      case c2 => intro u hu; simp at hu; obtain ⟨x, _, rfl⟩ := hu; rfl
      case c3 => unfold maxLen; omega
      case c4 => omega
      case c5 => simp; omega
      · intro v' w3 hown3 hgrow _
        have R3 : Hid (Below w.heap.size w w3) := Below.grown HB2.out hgrow (by simp; omega) HV.out
        have R1 : Hid (w3.ownsRow w.heap.size 5 1 v' (textL (l.take (k + 1))).length ((textL (l.take (k + 1))).map (Value.int .u8))) := by
          show World.ownsRow _ _ _ _ _ _ _
          rw [HTK.out, List.length_append, List.map_append]; exact hown3
        clear hown3 hgrow HO2 HB2
        go_wp2
        go_roundw
        case rel => exact ⟨k + 1, by omega, by go_num, R1, R3⟩
        case measure => simp [RowKit.intOf]; omega
    · obtain rfl : k = N := by omega
      have hlt' : ¬ (k : Int) < (k : Int) := by omega
      have HR : Hid (wr.ownsRow w.heap.size 5 1 u3 (textL l).length ((textL l).map (Value.int .u8)) ∧ Below w.heap.size w wr) := by
        have := HO.out
        rw [HT.out] at this
        exact ⟨this, HB.out⟩
      clear HO HB
      go_wp2
      go_ret
      exact ⟨_, rfl, HR.out⟩
end Go.Proofs.YtlidgjkipbijlaaGreatDoor.itm
end

section
/- ItemsEqual: the walk. -/
set_option linter.unusedVariables false
set_option linter.unusedSimpArgs false
namespace Go.Proofs.YtlidgjkipbijlaaGreatDoor.itm
open Go.RowKit Go.Shelf nrm prp
open Go.Proofs.YtlidgjkipbijlaaGreatDoor.utf (IsB lst)

/-- The code points that have bytes. -/
def okL (l : List Int) : List Int := l.filter (fun r => decide (utf.len r ≠ 0))
theorem ok_good (l : List Int) : Good (okL l) := fun r hr => by
  have := (List.mem_filter.1 hr).2
  simpa using this
theorem ok_snoc (l : List Int) (r : Int) : okL (l ++ [r]) = if utf.len r ≠ 0 then okL l ++ [r] else okL l := by
  unfold okL
  rw [List.filter_append]
  by_cases h : utf.len r = 0
  · rw [if_neg (by simp [h])]; simp [h]
  · rw [if_pos h]; simp [h]
theorem ok_len (l : List Int) : (okL l).length ≤ l.length := List.length_filter_le _ _
theorem nfd_len9 (l : List Int) : (nfdR l).length ≤ l.length * 9 := nfdR_le l

set_option maxHeartbeats 4000000 in
set_option maxRecDepth 1000000 in
theorem equal_walk (v : Value) (l : List Int) (w : World) (h : ArgC w v l) (E : Env w) : Calls Tryz.prog 8 #[v] w fun e w' => e = .returned (.bool true) ∧ Below w.heap.size w w' := by
  obtain ⟨i0, hi, hz0, hz1, hz2⟩ := rng.info_parts infoInt
  have HE : Hid (Env w) := E
  have HA : Hid (ArgC w v l) := h
  have C := rload_any w
  obtain ⟨ao, cap, rfl, hcells, hok, hcap, hmax, hnil⟩ := h
  obtain ⟨n, hn⟩ : ∃ n, min l.length 60 = n := ⟨_, rfl⟩
  have hnl : n ≤ l.length := by omega
  have hn60 : n ≤ 60 := by omega
  have HV : Hid (IV w (.slice ao n cap) (l.take n)) := HA.out.take n hnl
  have HLN : Hid ((l.take n).length = n) := by show _ = _; rw [List.length_take]; omega
  have hmin : min (l.length : Int) 60 = (n : Int) := by omega
  have hmin2 : (if (l.length : Int) < 60 then (l.length : Int) else 60) = (n : Int) := by split <;> omega
  have hmin3 : (if (60 : Int) < (l.length : Int) then 60 else (l.length : Int)) = (n : Int) := by split <;> omega
  have hmin4 : (if (l.length : Int) ≤ 60 then (l.length : Int) else 60) = (n : Int) := by split <;> omega
  have hncap : (n : Int) ≤ (cap : Int) := by omega
  have hn0 : (0 : Int) ≤ (n : Int) := by omega
  generalize hLN : l.take n = LN at *
  generalize l.length = ll at *
  clear hcells hok hLN HA E hnil hn
  have HC : Hid (∀ k, k < n → ∃ x b o, ao = some ⟨b, o, none⟩ ∧ w.cell? ⟨b, o + k, none⟩ = some (.int .i64 x) ∧ okL (LN.take (k + 1)) = (if utf.len x ≠ 0 then okL (LN.take k) ++ [x] else okL (LN.take k)) ∧ (okL (LN.take k)).length ≤ 60) := fun k hk => by
    obtain ⟨_, _, ev, hc⟩ := HV.out
    injection ev with e1 e2 e3
    have hk' : k < LN.length := by rw [HLN.out]; exact hk
    obtain ⟨b, o, e, hc⟩ := hc (by omega)
    have h1 := hc k hk'
    rw [List.getD_eq_getElem?_getD, List.getElem?_eq_getElem hk'] at h1
    refine ⟨LN[k], b, o, by rw [e1, e], h1, ?_, ?_⟩
    · rw [List.take_succ_eq_append_getElem hk', ok_snoc]
    · have := ok_len (LN.take k)
      rw [List.length_take] at this
      omega
  have HALL : Hid (okL (LN.take n) = okL LN) := by show _ = _; rw [List.take_of_length_le (by rw [HLN.out]; exact Nat.le_refl _)]
  have HFL : Hid ((okL LN).length ≤ 60) := by show _ ≤ _; have := ok_len LN; rw [HLN.out] at this; omega
  go_enter Tryz.func8, Tryz.ntmps8
  go_wp2_with fail
  refine C.mono ?_
  rintro e w1 ⟨u, rfl, hu, b1⟩
  clear C
  have HU : Hid (RTabs w1 u) := hu
  have HB1 : Hid (Below w.heap.size w w1) := b1
  clear hu b1
  go_wp2
  go_loopw [5, 24] (fun v i wr => ∃ k : Nat, k ≤ n ∧ i = .int .i64 k ∧ Hid (IOwn wr w1.heap.size v (okL (LN.take k))) ∧ Hid (Below w1.heap.size w1 wr)) (fun _ i _ => n - (RowKit.intOf i).toNat)
  case atStart => exact ⟨0, Nat.zero_le _, rfl, World.ownsRow_nil _ _ _ _, Below.refl _ _⟩
  case round =>
    obtain ⟨k, hk, rfl, HO, HB⟩ := hrel
    by_cases hlt : k < n
    · have hlt' : (k : Int) < (n : Int) := by omega
      have hk0 : (0 : Int) ≤ (k : Int) := by omega
      obtain ⟨x, b, o, rfl, d1, htk, htl⟩ := HC.out k hlt
      have f1 := cell_below (HB1.out.trans (HB.out.mono HB1.out.size)) d1
      have HTK : Hid (okL (LN.take (k + 1)) = (if utf.len x ≠ 0 then okL (LN.take k) ++ [x] else okL (LN.take k))) := htk
      clear d1 htk
      by_cases hx : utf.len x = 0
      · have EN := utf.renc_no x wr hx
        have HT2 : Hid (okL (LN.take (k + 1)) = okL (LN.take k)) := by have := HTK.out; rw [if_neg (by simp [hx])] at this; exact this
        clear hx HTK
        go_wp2_with fail
        refine EN.mono ?_
        rintro e w2 ⟨rfl, hw⟩
        subst hw
        clear EN
        go_wp2
        go_roundw
        case rel => exact ⟨k + 1, by omega, by go_num, by show Hid _; rw [HT2.out]; exact HO, HB⟩
        case measure => simp [RowKit.intOf]; omega
      · have EN := utf.renc_yes x wr hx
        have HT2 : Hid (okL (LN.take (k + 1)) = okL (LN.take k) ++ [x]) := by have := HTK.out; rw [if_pos hx] at this; exact this
        have hsz := HB.out.size
        have HO2 : Hid (IOwn (wr.alloc (utf.encBlock x)) w1.heap.size u5 (okL (LN.take k))) := World.ownsRow.alloc HO.out _
        have HB2 : Hid (Below w1.heap.size w1 (wr.alloc (utf.encBlock x))) := HB.out.alloc hsz _
        obtain ⟨ya, yc, rfl⟩ := lin.own_slice HO2.out
        clear hx HTK HO HB
        generalize okL (LN.take k) = BL at *
        go_wp2_with fail
        refine EN.mono ?_
        rintro e w2 ⟨rfl, hw⟩
        clear EN
        have hs2 := HB2.out.size
        rw [← hw] at HO2 HB2 hs2
        clear hw
        go_wp2_with (at_builtin; refine wpList_append_own _ rfl _ _ 35 rfl w1.heap.size 3 i0 (.int .i64 0) 1 8 Tryz.underlying35 hi hz0 hz1 hz2 rfl (by decide) _ _ _ rfl (World.ownsRow.alloc HO2.out _) ⟨w2.heap.size, 0, none⟩ 1 1 [.int .i64 x] rfl rfl (cell_one_new _ _ _) ?c2 ?c3 ?c4 ?c5 ?_)
        case c2 => first | (intro u hu; simp at hu; subst hu; rfl) | simp [Value.oneCell']
        case c3 => unfold maxLen; omega
        case c4 => omega
        case c5 => first | omega | (simp; omega)
        intro v' w5 hown5 hgrow _
        have R2 : Hid (Below w1.heap.size w1 w5) := Below.grown (HB2.out.alloc hs2 _) hgrow (by simp; omega) (fun k e => (HO2.out.lt k e).1)
        have R1 : Hid (IOwn w5 w1.heap.size v' (okL (LN.take (k + 1)))) := by show IOwn _ _ _ _; rw [HT2.out]; exact io_snoc hown5
        clear hown5 hgrow HO2 HB2
        go_wp2
        go_roundw
        case rel => exact ⟨k + 1, by omega, by go_num, R1, R2⟩
        case measure => simp [RowKit.intOf]; omega
    · obtain rfl : k = n := by omega
      have hlt' : ¬ (k : Int) < (k : Int) := by omega
      have HO2 : Hid (IOwn wr w1.heap.size u5 (okL LN)) := by have := HO.out; rw [HALL.out] at this; exact this
      have HBW : Hid (Below w.heap.size w wr) := HB1.out.trans (HB.out.mono HB1.out.size)
      have HUW : Hid (RTabs wr u) := HU.out.below HB.out
      clear HO HB HC HV HALL HB1 HU HLN
      generalize hF : okL LN = F at *
      have HG : Hid (Good F) := by show Good F; rw [← hF]; exact ok_good LN
      clear hF
      have HFV : Hid (IV wr u5 F) := IOwn.iv HO2.out
      have HTL : Hid ((textL F).length ≤ 240) := by show _ ≤ _; have := text_len HG.out; have := HFL.out; omega
      have HNG : Hid (Good (nfdR F)) := nfd_good HG.out
      have HNL : Hid ((nfdR F).length ≤ 540) := by show _ ≤ _; have := nfd_len9 F; have := HFL.out; omega
      have HTN : Hid ((textL (nfdR F)).length ≤ 2160) := by show _ ≤ _; have := text_len HNG.out; have := HNL.out; omega
      clear HO2
      generalize u5 = fv at *
      have C := text_any fv F wr HFV.out HG.out (by have := HFL.out; omega)
      go_wp2_with fail
      refine C.mono ?_
      rintro e w2 ⟨v2, rfl, o2, b2⟩
      clear C
      have HB2 : Hid (Below w.heap.size w w2) := HBW.out.trans (b2.mono HBW.out.size)
      have HF2 : Hid (Below wr.heap.size wr w2) := b2
      have C := both_any v2 (textL F).length (textL F).length (fT F) true w2 (text_arg o2) (by have := HTL.out; omega) (HE.out.below HB2.out)
      clear o2 b2
      go_wp2_with fail
      refine C.mono ?_
      rintro e w3 ⟨x, x', rfl, hx, _, b3⟩
      clear C
      have HX : Hid (TxtIs w3 w2.heap.size x (textL F).length (fT F) (itemsL true (fT F) (textL F).length)) := hx
      have HB3 : Hid (Below w.heap.size w w3) := HB2.out.trans (b3.mono HB2.out.size)
      have HF3 : Hid (Below wr.heap.size wr w3) := HF2.out.trans (b3.mono HF2.out.size)
      clear hx b3 HB2 HF2
      have C := rrunes_any u fv F w3 (HUW.out.below HF3.out) (HFV.out.below HF3.out) (by have := HFL.out; omega)
      go_wp2_with fail
      refine C.mono ?_
      rintro e w4 ⟨v4, rfl, o4, b4⟩
      clear C
      have HB4 : Hid (Below w.heap.size w w4) := HB3.out.trans (b4.mono HB3.out.size)
      have HF4 : Hid (Below wr.heap.size wr w4) := HF3.out.trans (b4.mono HF3.out.size)
      have HX4 : Hid (TxtIs w4 w2.heap.size x (textL F).length (fT F) (itemsL true (fT F) (textL F).length)) := HX.out.below b4
      have HI4 : Hid (IV w4 v4 (nfdR F)) := IOwn.iv o4
      clear o4 b4 HX HB3 HF3
      have C := text_any v4 (nfdR F) w4 HI4.out HNG.out (by have := HNL.out; omega)
      go_wp2_with fail
      refine C.mono ?_
      rintro e w5 ⟨v5, rfl, o5, b5⟩
      clear C
      have HB5 : Hid (Below w.heap.size w w5) := HB4.out.trans (b5.mono HB4.out.size)
      have HF5 : Hid (Below wr.heap.size wr w5) := HF4.out.trans (b5.mono HF4.out.size)
      have HX5 : Hid (TxtIs w5 w2.heap.size x (textL F).length (fT F) (itemsL true (fT F) (textL F).length)) := HX4.out.below b5
      obtain ⟨m, hm⟩ : ∃ m, min (textL (nfdR F)).length 300 = m := ⟨_, rfl⟩
      have HM : Hid (min (textL (nfdR F)).length 300 = m) := hm
      have C := both_any v5 (textL (nfdR F)).length m (fT (nfdR F)) true w5 (text_arg o5) hm (HE.out.below HB5.out)
      clear o5 b5 hm HX4 HB4 HF4 HI4
      go_wp2_with fail
      refine C.mono ?_
      rintro e w6 ⟨z, z', rfl, hz, _, b6⟩
      clear C
      have HZ6 : Hid (TxtIs w6 w5.heap.size z m (fT (nfdR F)) (itemsL true (fT (nfdR F)) m)) := hz
      have HX6 : Hid (TxtIs w6 w2.heap.size x (textL F).length (fT F) (itemsL true (fT F) (textL F).length)) := HX5.out.below b6
      have HB6 : Hid (Below w.heap.size w w6) := HB5.out.trans (b6.mono HB5.out.size)
      have HF6 : Hid (Below wr.heap.size wr w6) := HF5.out.trans (b6.mono HF5.out.size)
      clear hz b6 HX5 HB5 HF5
      have C := rrunes_any u fv F w6 (HUW.out.below HF6.out) (HFV.out.below HF6.out) (by have := HFL.out; omega)
      go_wp2_with fail
      refine C.mono ?_
      rintro e w7 ⟨v7, rfl, o7, b7⟩
      clear C
      have HI7 : Hid (IV w7 v7 (nfdR F)) := IOwn.iv o7
      have HZ7 : Hid (TxtIs w7 w5.heap.size z m (fT (nfdR F)) (itemsL true (fT (nfdR F)) m)) := HZ6.out.below b7
      have HX7 : Hid (TxtIs w7 w2.heap.size x (textL F).length (fT F) (itemsL true (fT F) (textL F).length)) := HX6.out.below b7
      have HB7 : Hid (Below w.heap.size w w7) := HB6.out.trans (b7.mono HB6.out.size)
      clear o7 b7 HZ6 HX6 HB6 HF6
      have C := text_any v7 (nfdR F) w7 HI7.out HNG.out (by have := HNL.out; omega)
      go_wp2_with fail
      refine C.mono ?_
      rintro e w8 ⟨v8, rfl, o8, b8⟩
      clear C
      obtain ⟨ya, yc, rfl⟩ := lin.own_slice o8
      have HZ8 : Hid (TxtIs w8 w5.heap.size z m (fT (nfdR F)) (itemsL true (fT (nfdR F)) m)) := HZ7.out.below b8
      have HX8 : Hid (TxtIs w8 w2.heap.size x (textL F).length (fT F) (itemsL true (fT F) (textL F).length)) := HX7.out.below b8
      have HB8 : Hid (Below w.heap.size w w8) := HB7.out.trans (b8.mono HB7.out.size)
      clear o8 b8 HZ7 HX7 HB7 HI7 HUW HFV HBW
      obtain ⟨T, hT⟩ : ∃ T, (textL (nfdR F)).length = T := ⟨_, rfl⟩
      rw [hT] at HTN HM ⊢
      have hTN := HTN.out
      have HTT : Hid ((textL (nfdR F)).length = T) := hT
      clear hT
      by_cases hbig : 300 < T
      · have hbig' : (300 : Int) < (T : Int) := by omega
        clear HZ8 HX8
        go_wp2
        go_ret
        exact ⟨rfl, HB8.out⟩
      · have hbig' : ¬ (300 : Int) < (T : Int) := by omega
        obtain rfl : m = T := by have := HM.out; omega
        have HRX : Hid ((itemsL true (fT F) (textL F).length).map (·.1) = nfdR F) := text_runes HG.out
        have HRZ : Hid ((itemsL true (fT (nfdR F)) m).map (·.1) = nfdR F) := by
          show _ = _
          rw [← HTT.out, text_runes HNG.out, nfdR_twice]
        have hl1 : (itemsL true (fT F) (textL F).length).length ≤ 100000 := by have := items_len true (fT F) (textL F).length; have := HTL.out; omega
        have hl2 : (itemsL true (fT (nfdR F)) m).length ≤ 100000 := by have := items_len true (fT (nfdR F)) m; omega
        have C := runes_t x w2.heap.size (textL F).length (fT F) (itemsL true (fT F) (textL F).length) w8 HX8.out hl1
        rw [HRX.out] at C
        clear HX8 HRX hl1
        go_wp2_with fail
        refine C.mono ?_
        rintro e w9 ⟨v9, rfl, i9, b9⟩
        clear C
        have HB9 : Hid (Below w.heap.size w w9) := HB8.out.trans (b9.mono HB8.out.size)
        have HI9 : Hid (IV w9 v9 (nfdR F)) := i9
        have C := runes_t z w5.heap.size m (fT (nfdR F)) (itemsL true (fT (nfdR F)) m) w9 (HZ8.out.below b9) hl2
        rw [HRZ.out] at C
        clear i9 b9 HB8 HZ8 HRZ hl2
        go_wp2_with fail
        refine C.mono ?_
        rintro e w10 ⟨v10, rfl, i10, b10⟩
        clear C
        have HB10 : Hid (Below w.heap.size w w10) := HB9.out.trans (b10.mono HB9.out.size)
        have C := ieq_any v9 v10 (nfdR F) (nfdR F) w10 (HI9.out.below b10) i10 (by have := HNL.out; omega) (by have := HNL.out; omega)
        rw [beq_self_eq_true] at C
        clear i10 b10 HB9 HI9
        go_wp2_with fail
        refine C.mono ?_
        rintro e w11 ⟨rfl, b11⟩
        clear C
        have HB11 : Hid (Below w.heap.size w w11) := HB10.out.trans (b11.mono HB10.out.size)
        clear b11 HB10
        go_wp2
        go_ret
        exact ⟨rfl, HB11.out⟩
end Go.Proofs.YtlidgjkipbijlaaGreatDoor.itm
end
