/- The walk of TrieGets. -/
import Derived.Test.YtmglljceklmngaaTriRanges
set_option linter.unusedVariables false
set_option linter.unusedSimpArgs false
namespace Go.Proofs.Ytmglljceklmngaa.tri
open Go.RowKit
open Go.Proofs.Ytmglljceklmngaa.rng (ret_int ret_bool below_drewN info_parts own_below')

theorem infoStr : (Try.prog.info? 9).map (fun i => (i.zero, i.size, i.bytes)) = some (some (.string ⟨#[]⟩), 1, 16) := by kernel_rfl
/-- The texts l can be read from the address on. -/
def SV (w : World) (ao : Option Addr) (l : List ByteArray) : Prop :=
  l = [] ∨ ∃ b off, ao = some ⟨b, off, none⟩ ∧ ∀ i x, l[i]? = some x → w.cell? ⟨b, off + i, none⟩ = some (.string x)
theorem SV.below {w w' : World} {ao : Option Addr} {l : List ByteArray} (h : SV w ao l) (hb : Below w.heap.size w w') : SV w' ao l := by
  rcases h with h | ⟨b, off, rfl, h⟩
  · exact .inl h
  · exact .inr ⟨b, off, rfl, fun i p hi => (hb.cell (World.block_lt_of_cell? w _ (h i p hi))).trans (h i p hi)⟩
/-- A list of texts that came in. -/
def ArgS (w : World) (v : Value) (l : List ByteArray) : Prop := ∃ ao cap, v = .slice ao l.length cap ∧ SV w ao l ∧ (ao = none → cap = 0) ∧ l.length ≤ cap ∧ cap ≤ 9223372036854775807
def cellsS (l : List ByteArray) : List Value := l.map Value.string
/-- The text at a place. -/
def VS (l : List ByteArray) (i : Int) : ByteArray := (l[i.toNat]?).getD ⟨#[]⟩
theorem vs_get {l : List ByteArray} {k : Nat} {t : ByteArray} (h : l[k]? = some t) : VS l (k : Int) = t := by simp [VS, h]

set_option maxRecDepth 10000 in
set_option maxHeartbeats 1000000 in
theorem clone_t (ao : Option Addr) (cap : Nat) (l : List ByteArray) (w : World) (hv : SV w ao l) (h0 : ao = none → cap = 0) (hn : l.length * 16 ≤ 140737488355328) :
    Calls Try.prog 10 #[.slice ao l.length cap] w fun e w' => ∃ v', e = .returned v' ∧ w'.ownsRow w.heap.size 9 1 v' l.length (cellsS l) ∧ Below w.heap.size w w' := by
  obtain ⟨i0, hi, hz0, hz1, hz2⟩ := info_parts infoStr
  cases ao with
  | none =>
    obtain rfl : l = [] := by
      rcases hv with h | ⟨b, off, h, _⟩
      · exact h
      · cases h
    obtain rfl := h0 rfl
    clear hv h0
    go_enter Try.func10, Try.ntmps10
    go_wp2_with fail
    rw [Lib.run_eql_slice_nil _ _ _ _ _ _ _ _ Try.underlying23]
    go_wp2
    go_ret
    exact ⟨_, rfl, World.ownsRow_nil _ _ _ _, Below.refl _ _⟩
  | some x =>
    have HV : Hid (∀ (j : Nat) u, (cellsS l)[j]? = some u → w.cell? (x.add j) = some u) := by
      rcases hv with rfl | ⟨b, off, e, h⟩
      · intro j u hj; simp [cellsS] at hj
      · cases e
        intro j u hj
        unfold cellsS at hj
        rw [List.getElem?_map] at hj
        obtain ⟨s, h1, rfl⟩ := Option.map_eq_some_iff.1 hj
        rw [Addr.add_lit]; exact h j s h1
    have HC : Hid ((cellsS l).length = l.length * 1) := by unfold Hid; simp [cellsS]
    have H1 : Hid (∀ u ∈ cellsS l, u.oneCell' = true) := fun u hu => by
      unfold cellsS at hu; obtain ⟨s, _, rfl⟩ := List.mem_map.1 hu; rfl
    obtain ⟨n, hl⟩ : ∃ n, l.length = n := ⟨_, rfl⟩
    have HL : Hid (l.length = n) := hl
    rw [hl] at hn HC ⊢
    clear hv h0 hl
    go_enter Try.func10, Try.ntmps10
    go_wp2_with fail
    rw [Lib.run_eql_slice_nil _ _ _ _ _ _ _ _ Try.underlying23]
    go_wp2_with (at_builtin; refine wpList_append_own _ rfl _ _ 23 rfl w.heap.size 9 i0 (.string ⟨#[]⟩) 1 16 Try.underlying23 hi hz0 hz1 hz2 rfl (by decide) _ _ _ rfl (World.ownsRow_made w #[] 0 (Nat.le_refl _) (by decide) rfl) x n cap (cellsS l) rfl HC.out (fun j u hj => (World.grownBy_alloc w _ none).cell (HV.out j u hj) (by simp)) H1.out (by unfold maxLen; omega) (by omega) (by simp) ?_)
    intro v' w3 hown hgrow _
    have bb : Below w.heap.size w w3 := ((Below.refl w.heap.size w).alloc (Nat.le_refl _) _).grown hgrow (by simp) (fun k e => by cases e; exact Nat.le_refl _)
    have HO : Hid (w3.ownsRow w.heap.size 9 1 v' n (cellsS l)) := by
      unfold Hid; simpa using hown
    clear hgrow hown HV
    go_wp2
    go_ret
    exact ⟨_, rfl, HO.out, bb⟩

/-- A trie stays while texts elsewhere are written. -/
theorem trie_set {w : World} {V : Int → ByteArray} {tb tg i : Nat} {s : List E} {x : ByteArray} (h : str.TrieIs w V tb s) (ht : w.cell? ⟨tg, 0, none⟩ = some (.string x)) (u : Value) : str.TrieIs (w.setCell ⟨tg, i, none⟩ u) V tb s := by
  obtain ⟨⟨ra, rc, h1, h2⟩, h3⟩ := h
  have n1 : tb ≠ tg := fun e => by subst e; rw [h1] at ht; cases ht
  have other : ∀ {b j : Nat} {y : Value}, b ≠ tg → w.cell? ⟨b, j, none⟩ = some y → (w.setCell ⟨tg, i, none⟩ u).cell? ⟨b, j, none⟩ = some y := fun {b j y} hb hy =>
    (World.cell?_of_block (a := ⟨b, j, none⟩) (Below.heap_setCell _ _ _ _ hb)).trans hy
  refine ⟨⟨ra, rc, other n1 h1, ?_⟩, fun h0 => ?_⟩
  · rcases h2 with h2 | ⟨b, rfl, h2⟩
    · exact .inl h2
    · cases s with
      | nil => exact .inl rfl
      | cons e s' =>
        have n2 : b ≠ tg := fun hb => by
          subst hb; have := (h2 0 e rfl).1; rw [Nat.zero_mul, ht] at this; cases this
        exact .inr ⟨b, rfl, fun j p hp => ⟨other n2 (h2 j p hp).1, other n2 (h2 j p hp).2.1, other n2 (h2 j p hp).2.2⟩⟩
  · obtain ⟨sb, h4, h5⟩ := h3 h0
    have n3 : sb ≠ tg := fun hb => by
      subst hb; have := h5 0 (by decide); rw [ht] at this; cases this
    exact ⟨sb, other n1 h4, fun j hj => other n3 (h5 j hj)⟩
/-- A row of texts. -/
def Texts (xs : List Value) : Prop := ∀ (j : Nat) (u : Value), xs[j]? = some u → ∃ s : ByteArray, u = Value.string s
theorem Texts.set {xs : List Value} (h : Texts xs) (i : Nat) (s : ByteArray) : Texts (xs.set i (.string s)) := fun j u hj => by
  rw [List.getElem?_set] at hj
  split at hj
  · split at hj
    · cases hj; exact ⟨s, rfl⟩
    · cases hj
  · exact h j u hj

set_option maxRecDepth 10000 in
set_option maxHeartbeats 16000000 in
theorem law_gets (v1 : Value) (l0 : List E) (v2 : Value) (ss : List ByteArray) (v3 : Value) (ps : List Int) (w : World) (ha : ArgE w v1 l0) (hb : ArgS w v2 ss) (hc : ArgI w v3 ps) (hsz : ss.length * 16 ≤ 140737488355328) :
    Calls Try.prog 3 #[v1, v2, v3] w fun e w' => e = .returned (.bool true) ∧ Below w.heap.size w w' := by
  have C := few_s v1 l0 w ha
  have hn := take12 l0
  generalize l0.take 12 = l at *
  clear ha
  obtain ⟨va, vcap, rfl, hsv, hv0, hvc, hvm⟩ := hb
  obtain ⟨pa, pcap, rfl, hpv, hp0, hpc, hpm⟩ := hc
  have HSV : Hid (SV w va ss) := hsv
  have HPV : Hid (rng.IV w pa ps) := hpv
  have HV0 : Hid (va = none → vcap = 0) := hv0
  obtain ⟨n, hl⟩ : ∃ n, ss.length = n := ⟨_, rfl⟩
  have HL : Hid (ss.length = n) := hl
  obtain ⟨pn, hpl⟩ : ∃ pn, ps.length = pn := ⟨_, rfl⟩
  have HPL : Hid (ps.length = pn) := hpl
  rw [hl] at hsz hvc ⊢
  rw [hpl] at hpc ⊢
  clear hsv hpv hv0 hp0 hl hpl
  go_enter Try.func3, Try.ntmps3
  go_wp2_with fail
  refine C.mono ?_
  rintro e wz ⟨ao, cap, rfl, hev, h0, rfl⟩
  have HEV : Hid (EV wz ao l) := hev
  have D := clone_e ao cap l wz hev h0 (by omega)
  clear C hev h0
  generalize hln : l.length = ln at *
  have HLN : Hid (l.length = ln) := hln
  clear hln
  go_wp2_with fail
  refine D.mono ?_
  rintro e w1 ⟨vg, rfl, og, b1⟩
  obtain ⟨ga, gc, rfl, hgv, _, _, _⟩ := og.view
  rw [HLN.out]
  have HGV : Hid (EV w1 ga l) := hgv
  have F := clone_t va vcap ss w1 (HSV.out.below b1) HV0.out (by rw [HL.out]; exact hsz)
  rw [HL.out] at F
  clear D og hgv
  go_wp2_with fail
  refine F.mono ?_
  rintro e w2 ⟨v2, rfl, o2, b2⟩
  obtain ⟨ta, tc, rfl⟩ : ∃ ta tc, v2 = .slice ta n tc := by
    rcases o2.2 with ⟨e, h⟩ | ⟨g, c, _, e, _⟩
    · exact ⟨none, 0, by rw [e, h]⟩
    · exact ⟨_, c, e⟩
  have HO2 : Hid (w2.ownsRow w1.heap.size 9 1 (.slice ta n tc) n (cellsS ss)) := o2
  have HVAL : Hid (str.Vals w2 (VS ss) ta n) := by
    rcases o2.2 with ⟨e, h⟩ | ⟨g, c, _, e, _⟩
    · exact .inl h
    · cases e
      refine .inr ⟨g, 0, rfl, fun i hi => ?_⟩
      rw [Nat.zero_add]
      refine (o2.cellAt i (by omega)).trans ?_
      have hil : i < ss.length := by rw [HL.out]; exact hi
      rw [vs_get (List.getElem?_eq_getElem hil)]
      unfold cellsS; rw [List.getElem?_map, List.getElem?_eq_getElem hil]; rfl
  have b12 := b1.trans (b2.mono b1.size)
  have G := str.build_any (VS ss) ga ta gc n tc l w2 (by rw [HLN.out]; omega) (HGV.out.below b2) HVAL.out
  rw [HLN.out] at G
  clear F o2 HVAL
  go_wp2_with fail
  refine G.mono ?_
  rintro e w3 ⟨tb, s, rfl, ht, hr, hat, b3⟩
  have HT3 : Hid (str.TrieIs w3 (VS ss) tb s) := ht
  have HR : Hid (Ris n 0 s) := hr
  have HAT : Hid (∀ x, at_ s x = last (use n l) x) := hat
  have HO3 : Hid (w3.ownsRow w1.heap.size 9 1 (.slice ta n tc) n (cellsS ss)) := own_below' HO2.out b3
  have B3 := b2.trans (b3.mono b2.size)
  have HTX : Hid (Texts (cellsS ss)) := fun j u hj => by
    unfold cellsS at hj; rw [List.getElem?_map] at hj
    obtain ⟨s', _, rfl⟩ := Option.map_eq_some_iff.1 hj; exact ⟨s', rfl⟩
  clear G ht hr hat HO2 b2 b3 b12
  go_wp2
  go_loopw [28] (fun i wr => ∃ (k : Nat) (xs : List Value), k ≤ n ∧ i = .int .i64 k ∧ Hid (wr.ownsRow w1.heap.size 9 1 (.slice ta n tc) n xs) ∧ Hid (Texts xs) ∧ Hid (str.TrieIs wr (VS ss) tb s) ∧ Below w1.heap.size w1 wr) (fun i _ => n - (intOf i).toNat)
  case atStart => exact ⟨0, cellsS ss, Nat.zero_le _, rfl, HO3, HTX, HT3, B3⟩
  case round =>
    obtain ⟨k, xs, hk, rfl, HO, HX, HT, hbel⟩ := hrel
    clear HO3 HTX HT3 B3
    by_cases hlt : k < n
    · obtain ⟨tg, rfl, htg⟩ : ∃ tg, ta = some ⟨tg, 0, none⟩ ∧ w1.heap.size ≤ tg := by
        rcases HO.out.2 with ⟨e, h⟩ | ⟨g, c, _, e, hg, _⟩
        · omega
        · cases e; exact ⟨_, rfl, hg⟩
      have hxl : xs.length = n := by have := HO.out.1; omega
      obtain ⟨u0, hu0⟩ := getX hxl (show 0 < n by omega)
      obtain ⟨uk, huk⟩ := getX hxl hlt
      obtain ⟨s0, rfl⟩ := HX.out 0 u0 hu0
      obtain ⟨sk, rfl⟩ := HX.out k uk huk
      have c0 : wr.cell? ⟨tg, 0, none⟩ = some (.string s0) := (HO.out.cellAt 0 (by omega)).trans hu0
      have ck : wr.cell? ⟨tg, k, none⟩ = some (.string sk) := (HO.out.cellAt k (by omega)).trans huk
      have fk : wr.frozen? ⟨tg, k, none⟩ = false := HO.out.frozenAt k
      have R1 : Hid ((wr.setCell ⟨tg, k, none⟩ (.string ⟨#[120]⟩)).ownsRow w1.heap.size 9 1 (.slice (some ⟨tg, 0, none⟩) n tc) n (xs.set k (.string ⟨#[120]⟩))) := (HO.out.stored k (.string ⟨#[120]⟩)).1
      have R2 : Hid (Texts (xs.set k (.string ⟨#[120]⟩))) := HX.out.set k _
      have R3 : Hid (str.TrieIs (wr.setCell ⟨tg, k, none⟩ (.string ⟨#[120]⟩)) (VS ss) tb s) := trie_set HT.out c0 _
      have R4 := hbel.setCell (p := ⟨tg, k, none⟩) htg (.string ⟨#[120]⟩)
      clear HO HX HT hbel hu0 huk hxl
      go_wp2
      go_roundw
      case rel => exact ⟨k + 1, xs.set k (.string ⟨#[120]⟩), by omega, by go_num, R1, R2, R3, R4⟩
      case measure => simp [intOf]; omega
    · clear HO HX
      have bz := b1.trans (hbel.mono b1.size)
      have G := entries_any ao cap l n wr (by rw [HLN.out]; omega) (HEV.out.below bz)
      rw [HLN.out] at G
      have HGW : Hid (EV wr ga l) := HGV.out.below hbel
      generalize wr = w4 at *
      go_wp2_with fail
      refine G.mono ?_
      rintro e w6 ⟨v6, rfl, o6, b6⟩
      obtain ⟨a6, c6, rfl, hv6, _, _, _⟩ := o6.view
      have HV6 : Hid (EV w6 a6 (use n l)) := hv6
      have hul := use_length (n : Int) l
      have HUL : Hid ((use (n : Int) l).length ≤ 12) := by have := HLN.out; unfold Hid; omega
      have HT6 : Hid (str.TrieIs w6 (VS ss) tb s) := HT.out.below b6
      have HG6 : Hid (EV w6 ga l) := HGW.out.below b6
      have B6 := bz.trans (b6.mono bz.size)
      obtain ⟨un, hun⟩ : ∃ un, (use (n : Int) l).length = un := ⟨_, rfl⟩
      have HUN : Hid ((use (n : Int) l).length = un) := hun
      rw [hun]
      clear G o6 b6 hv6 hul HT HGW bz hbel hun b1
      go_wp2
      go_loopw [41] (fun i wr => ∃ (k : Nat), k ≤ pn ∧ k ≤ 61 ∧ i = .int .i64 k ∧ Below w6.heap.size w6 wr) (fun i _ => pn - (intOf i).toNat)
      case atStart => exact ⟨0, Nat.zero_le _, by omega, rfl, Below.refl _ _⟩
      case round =>
        obtain ⟨k, hk, hk61, rfl, hbel⟩ := hrel
        have END : Hid (∀ wx, Below w6.heap.size w6 wx → Calls Try.prog 15 #[.slice ga ln gc, .slice ao ln cap] wx fun e w' => e = .returned (.bool true) ∧ Below wx.heap.size wx w') := fun wx hx => by
          have := equal_e ga ao gc cap l wx (by rw [HLN.out]; omega) (HG6.out.below hx) (HEV.out.below (B6.trans (hx.mono B6.size)))
          rw [HLN.out] at this; exact this
        by_cases hlt : k < pn
        · obtain ⟨r, hpr⟩ := getX HPL.out hlt
          have B7 := B6.trans (hbel.mono B6.size)
          obtain ⟨pb, po, rfl, hpc'⟩ := (HPV.out.below B7).some (by have := HPL.out; omega)
          have cp := hpc' k r hpr
          clear hpc' hpr
          by_cases h60 : 60 < k
          · have h60' : (60 : Int) < (k : Int) := by omega
            go_wp2_with fail
            refine (END.out _ hbel).mono ?_
            rintro e w8 ⟨rfl, b8⟩
            have R8 := B7.trans (b8.mono B7.size)
            clear b8 B7 END
            go_wp2_with fail
            refine (awake_any _).mono ?_
            rintro e w9 ⟨rfl, b9⟩
            go_wp2
            go_ret
            exact ⟨rfl, R8.trans (b9.mono R8.size)⟩
          · have h60' : ¬ (60 : Int) < (k : Int) := by omega
            have G := str.get_any n (VS ss) tb s r wr (HT6.out.below hbel) HR.out
            have Q := fun wx (hx : Below w6.heap.size w6 wx) => rget_any a6 c6 (use n l) r wx (by have := HUL.out; omega) (HV6.out.below hx)
            rw [← HAT.out r, HUN.out] at Q
            have HQ : Hid (∀ wx, Below w6.heap.size w6 wx → Calls Try.prog 14 #[.slice a6 un c6, .int .i64 r] wx fun e w' => e = .returned (.int .i64 (place (at_ s r))) ∧ Below wx.heap.size wx w') := Q
            have HOK : Hid (∀ i, at_ s r = some i → 0 ≤ i ∧ i < (n : Int)) := fun i hi => by have := at_code HR.out (Int.le_refl 0) hi; omega
            clear Q END
            obtain ⟨o, hoe⟩ : ∃ o, at_ s r = o := ⟨_, rfl⟩
            rw [hoe] at G HQ HOK
            clear hoe
            go_wp2_with fail
            refine G.mono ?_
            rintro e w8 ⟨rfl, b8⟩
            have R8 := hbel.trans (b8.mono hbel.size)
            clear G b8
            go_wp2_with fail
            refine (HQ.out _ R8).mono ?_
            rintro e w9 ⟨rfl, b9⟩
            have R9 := R8.trans (b9.mono R8.size)
            have B9 := B6.trans (R9.mono B6.size)
            clear HQ b9 R8 B7 cp hbel
            cases o with
            | none =>
              have et : str.told (VS ss) none = .string ⟨#[]⟩ := rfl
              have es : (none : Option Int).isSome = false := rfl
              have ep : place none = -1 := rfl
              rw [et, es, ep]
              clear et es ep
              go_wp2
              go_roundw
              case rel => exact ⟨k + 1, by omega, by omega, by go_num, R9⟩
              case measure => simp [intOf]; omega
            | some i =>
              obtain ⟨hi0, hi1⟩ := HOK.out i rfl
              obtain ⟨zn, rfl⟩ : ∃ zn : Nat, i = (zn : Int) := ⟨i.toNat, by omega⟩
              obtain ⟨t, htz⟩ := getX HL.out (show zn < n by omega)
              obtain ⟨vb, vo, rfl, hvs⟩ : ∃ b off, va = some ⟨b, off, none⟩ ∧ ∀ i x, ss[i]? = some x → w9.cell? ⟨b, off + i, none⟩ = some (.string x) := by
                rcases HSV.out.below B9 with h | h
                · rw [h] at htz; simp at htz
                · exact h
              have cv := hvs zn t htz
              have et : str.told (VS ss) (some (zn : Int)) = .string t := by simp only [str.told]; rw [vs_get htz]
              have es : (some (zn : Int)).isSome = true := rfl
              have ep : place (some (zn : Int)) = (zn : Int) := rfl
              rw [et, es, ep]
              clear et es ep hvs htz B9 HOK
              go_wp2
              go_roundw
              case rel => exact ⟨k + 1, by omega, by omega, by go_num, R9⟩
              case measure => simp [intOf]; omega
        · have B7 := B6.trans (hbel.mono B6.size)
          go_wp2_with fail
          refine (END.out _ hbel).mono ?_
          rintro e w8 ⟨rfl, b8⟩
          have R8 := B7.trans (b8.mono B7.size)
          clear b8 B7 END
          go_wp2_with fail
          refine (awake_any _).mono ?_
          rintro e w9 ⟨rfl, b9⟩
          go_wp2
          go_ret
          exact ⟨rfl, R8.trans (b9.mono R8.size)⟩
end Go.Proofs.Ytmglljceklmngaa.tri
