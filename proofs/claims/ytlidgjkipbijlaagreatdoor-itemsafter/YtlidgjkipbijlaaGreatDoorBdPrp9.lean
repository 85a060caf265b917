/- Texts that the proof leans on, one behind the other. -/
import Derived.Test.YtlidgjkipbijlaaGreatDoorBdPrp8

section
/- The document's Parts and Fold. -/
set_option linter.unusedVariables false
set_option linter.unusedSimpArgs false
namespace Go.Proofs.YtlidgjkipbijlaaGreatDoor.prp
open Go.RowKit Go.Maps lin

theorem dec_pos : ∀ x ∈ decL, 0 < (rcp x 0).length ∧ (rcp x 0).length ≤ 100 := by decide +kernel
theorem iv_some {w : World} {v : Value} {xs : List Int} (h : IV w v xs) (h0 : 0 < xs.length) : ∃ b o c, v = .slice (some ⟨b, o, none⟩) xs.length c ∧ ∀ (j : Nat) (u : Value), (xs.map (Value.int .i64))[j]? = some u → w.cell? ((⟨b, o, none⟩ : Addr).add j) = some u := by
  obtain ⟨a, c, rfl, hv⟩ := h
  obtain ⟨b, o, rfl, hc⟩ := hv h0
  refine ⟨b, o, c, rfl, fun j u hj => ?_⟩
  rw [List.getElem?_map] at hj
  cases hx : xs[j]? with
  | none => rw [hx] at hj; cases hj
  | some x =>
    rw [hx] at hj
    cases hj
    have := hc j (List.getElem?_eq_some_iff.1 hx).1
    rw [List.getD_eq_getElem?_getD, hx, Option.getD_some] at this
    rw [Addr.add_lit]
    exact this
theorem empty_own (w : World) : (w.alloc (.cells #[] 3)).ownsRow w.heap.size 3 1 (.slice (some ⟨w.heap.size, 0, none⟩) 0 0) 0 [] := World.ownsRow_made (base := w.heap.size) (e := 3) (size := 1) w #[] 0 (Nat.le_refl _) (by decide) rfl
theorem ints_one (xs : List Int) : ∀ u ∈ xs.map (Value.int .i64), u.oneCell' = true := by
  intro u hu
  obtain ⟨x, _, rfl⟩ := List.mem_map.1 hu
  rfl
set_option maxHeartbeats 2000000 in
set_option maxRecDepth 1000000 in
theorem rparts_t (t : Nat) (r : Int) (w : World) (h : RTabs w t) : Calls Tryz.prog 84 #[.pointer (some ⟨t, 0, none⟩), .int .i64 r] w fun e w' => ∃ v, e = .returned v ∧ IV w' v (partsF r) ∧ Below w.heap.size w w' := by
  obtain ⟨i0, hi, hz0, hy1, hz2⟩ := info_parts infoInt
  obtain ⟨vd, hcd, hVd⟩ := h.dec
  obtain ⟨rb, ro, rc, rfl, hrec⟩ := view_recs hVd dec_ok.1
  obtain ⟨vp, hcp, pb, pc, rfl, hp⟩ := h.par
  have HREC : Hid (∀ (i : Nat) (r : RL), decL[i]? = some r → ∃ g o2 c2, RecM w rb (ro + i * 3) r g o2 c2) := hrec
  have HP : Hid (∀ (i : Nat) (x : RL), decL[i]? = some x → ∃ u, w.cell? ⟨pb, i, none⟩ = some u ∧ IV w u (rcp x 0) ∧ 0 < (rcp x 0).length ∧ (rcp x 0).length ≤ 100) := fun i x hx => by
    obtain ⟨u, h1, h2⟩ := hp i (rcp x 0) (by unfold decR; rw [List.getElem?_map, hx]; rfl)
    exact ⟨u, h1, h2, dec_pos x (List.mem_of_getElem? hx)⟩
  have HD : Hid (∀ (k : Nat) (x : RL), decL[k]? = some x → firstR (decL.drop k) r = if inR x r then some x else firstR (decL.drop (k + 1)) r) := fun k x hx => first_drop hx r
  have HL : Hid (firstR (decL.drop decL.length) r = none) := by unfold Hid; rw [List.drop_length]; rfl
  have HF0 : Hid (partsF r = ((firstR decL r).map (fun x => rcp x 0)).getD []) := partsF_first r
  have hn : decL.length ≤ 1000 := dec_ok.2.1
  have hdr : decR.length = decL.length := by unfold decR; rw [List.length_map]
  rw [hdr] at hcp
  clear h hVd hrec hp hdr
  have HN : Hid (∀ k, k < decL.length → ∃ x, decL[k]? = some x) := fun k hk => ⟨_, List.getElem?_eq_getElem hk⟩
  have HS : Hid (firstR decL r = firstR (decL.drop 0) r) := rfl
  generalize hnl : decL.length = nl at *
  generalize partsF r = PF at *
  have HCD : Hid (∀ W, Below w.heap.size w W → W.cell? ⟨t, 7, none⟩ = some (.slice (some ⟨pb, 0, none⟩) nl pc)) := fun W hb => cell_below hb hcp
  go_enter Tryz.func84, Tryz.ntmps84
  go_wp2
  go_loopw [12] (fun i wr => ∃ k : Nat, k ≤ nl ∧ i = .int .i64 k ∧ Hid (firstR decL r = firstR (decL.drop k) r) ∧ Below w.heap.size w wr) (fun i _ => nl - (RowKit.intOf i).toNat)
  case atStart => exact ⟨0, Nat.zero_le _, rfl, HS, Below.refl _ w⟩
  case round =>
    obtain ⟨k, hk, rfl, HF, hbel⟩ := hrel
    by_cases hlt : k < nl
    · have hlt' : (k : Int) < (nl : Int) := by omega
      obtain ⟨x, hx⟩ := HN.out k hlt
      obtain ⟨fg, fo, fc, hrm0⟩ := HREC.out k x hx
      have hrm := hrm0.below hbel
      have HNX := HD.out k x hx
      have q0 := hrm.lo
      have q1 := hrm.hi
      have q2 := hrm.fv
      have hbs := hbel.size
      have hin : inR x r = (decide (x.1 ≤ r) && decide (r ≤ x.2.1)) := rfl
      obtain ⟨u, hu, hiv, hx0, hx1⟩ := HP.out k x hx
      clear hrm hrm0 hx
      by_cases c1 : x.1 ≤ r
      · by_cases c2 : r ≤ x.2.1
        · have HX : Hid (PF = rcp x 0) := by
            unfold Hid; rw [HF0.out, HF.out, HNX, hin, decide_eq_true c1, decide_eq_true c2]; rfl
          obtain ⟨b, o, c, rfl, hnews0⟩ := iv_some hiv hx0
          have hct := HCD.out wr hbel
          have hu2 := cell_below hbel hu
          have hlt1 : t < wr.heap.size := World.block_lt_of_cell? wr _ hct
          have hlt2 : pb < wr.heap.size := World.block_lt_of_cell? wr _ hu2
          obtain ⟨lo, hi', fs⟩ := x
          simp only at q0 q1 q2 c1 c2
          generalize hXS : rcp (lo, hi', fs) 0 = XS at *
          generalize hL3 : fs.length = n3 at *
          have B2 : Below w.heap.size w ((wr.alloc (.cells #[.int .i64 lo, .int .i64 hi', .slice (some ⟨fg, fo, none⟩) n3 fc] 82)).alloc (.cells #[] 3)) := (hbel.alloc hbs _).alloc (by simp; omega) _
          have HO1 : ((wr.alloc (.cells #[.int .i64 lo, .int .i64 hi', .slice (some ⟨fg, fo, none⟩) n3 fc] 82)).alloc (.cells #[] 3)).ownsRow (wr.heap.size + 1) 3 1 (.slice (some ⟨wr.heap.size + 1, 0, none⟩) 0 0) 0 [] := by
            have := empty_own (wr.alloc (.cells #[.int .i64 lo, .int .i64 hi', .slice (some ⟨fg, fo, none⟩) n3 fc] 82))
            simp only [World.size_alloc] at this
            exact this
          have HNW : Hid (∀ (j : Nat) (u : Value), (XS.map (Value.int .i64))[j]? = some u → ((wr.alloc (.cells #[.int .i64 lo, .int .i64 hi', .slice (some ⟨fg, fo, none⟩) n3 fc] 82)).alloc (.cells #[] 3)).cell? ((⟨b, o, none⟩ : Addr).add j) = some u) := fun j u hj => cell_below B2 (hnews0 j u hj)
          have ne1 : ¬ t = wr.heap.size := by omega
          have ne2 : ¬ pb = wr.heap.size := by omega
          clear HNX hin HF hnews0 hiv HF0 hcd hcp hXS hL3
          go_wp2_with (at_builtin; refine wpList_append_own _ rfl _ _ 35 rfl (wr.heap.size + 1) 3 i0 (.int .i64 0) 1 8 Tryz.underlying35 hi hz0 hy1 hz2 rfl (by decide) _ _ _ rfl HO1 ⟨b, o, none⟩ XS.length c (XS.map (Value.int .i64)) rfl (by simp) HNW.out (ints_one XS) ?c3 ?c4 ?c5 ?_)
          case c3 => unfold maxLen; omega
          case c4 => omega
          case c5 => simp
          intro v' w4 hown4 hgrow _
          have R2 := Below.grown B2 hgrow (by simp; omega) (fun j e => by cases e; show w.heap.size ≤ wr.heap.size + 1; omega)
          have R1 : Hid (IOwn w4 (wr.heap.size + 1) v' XS) := by
            unfold Hid IOwn
            simpa using hown4
          obtain ⟨va, vc, rfl⟩ := own_slice hown4
          clear hown4 hgrow HO1 HNW B2
          try simp only [Nat.zero_add]
          generalize XS.length = XN at *
          go_wp2
          try rw [Exit.noGoto_ret]
          go_ret
          exact ⟨_, rfl, by rw [HX.out]; exact R1.out.iv, R2⟩
        · have HX : Hid (firstR decL r = firstR (decL.drop (k + 1)) r) := by
            unfold Hid; rw [HF.out, HNX, hin, decide_eq_false c2, Bool.and_false, if_neg (by decide)]
          clear HNX hin HF hiv hu
          go_wp2
          exact ⟨⟨k + 1, by omega, by go_num, HX, hbel.alloc hbs _⟩, by simp [RowKit.intOf]; omega⟩
      · have HX : Hid (firstR decL r = firstR (decL.drop (k + 1)) r) := by
          unfold Hid; rw [HF.out, HNX, hin, decide_eq_false c1, Bool.false_and, if_neg (by decide)]
        clear HNX hin HF hiv hu
        go_wp2
        exact ⟨⟨k + 1, by omega, by go_num, HX, hbel.alloc hbs _⟩, by simp [RowKit.intOf]; omega⟩
    · have hge : ¬ (k : Int) < (nl : Int) := by omega
      obtain rfl : nl = k := by omega
      have HX : Hid (PF = []) := by unfold Hid; rw [HF0.out, HF.out, HL.out]; rfl
      clear HF HF0
      go_wp2
      go_ret
      exact ⟨_, rfl, by rw [HX.out]; exact ⟨none, 0, rfl, fun h => absurd h (Nat.lt_irrefl 0)⟩, hbel⟩
end Go.Proofs.YtlidgjkipbijlaaGreatDoor.prp
end

section
/- The document's Category, Script, Word, Cluster, Combining. -/
set_option linter.unusedVariables false
set_option linter.unusedSimpArgs false
namespace Go.Proofs.YtlidgjkipbijlaaGreatDoor.prp
open Go.RowKit Go.Maps lin

theorem view_sl {w : World} {v : Value} {rs : List RecT} (h : View w v rs) : ∃ a c, v = .slice a rs.length c := by obtain ⟨a, c, e, _⟩ := h; exact ⟨a, c, e⟩
theorem dig_bound (l : List UInt8) (h : l.length ≤ 3) : 0 ≤ digL l ∧ digL l ≤ 28305 := by
  match l, h with
  | [], _ => exact ⟨by decide, by decide⟩
  | [a], _ =>
    have ha : (a - 48).toNat < 256 := UInt8.toNat_lt _
    simp only [digL, List.foldl_cons, List.foldl_nil]
    omega
  | [a, b], _ =>
    have ha : (a - 48).toNat < 256 := UInt8.toNat_lt _
    have hb : (b - 48).toNat < 256 := UInt8.toNat_lt _
    simp only [digL, List.foldl_cons, List.foldl_nil]
    omega
  | [a, b, c], _ =>
    have ha : (a - 48).toNat < 256 := UInt8.toNat_lt _
    have hb : (b - 48).toNat < 256 := UInt8.toNat_lt _
    have hc : (c - 48).toNat < 256 := UInt8.toNat_lt _
    simp only [digL, List.foldl_cons, List.foldl_nil]
    omega
theorem dig_snoc (l : List UInt8) (c : UInt8) : digL (l ++ [c]) = 10 * digL l + ((c - 48).toNat : Int) := by unfold digL; rw [List.foldl_append]; rfl
theorem sub48 (c : UInt8) : IntKind.u8.wrap ((c.toNat : Int) - 48) = ((c - 48).toNat : Int) := by
  have h := UInt8.toNat_lt c
  rw [UInt8.toNat_sub]
  simp [IntKind.wrap, IntKind.signed, IntKind.bits]
  omega
set_option maxHeartbeats 1000000 in
set_option maxRecDepth 1000000 in
theorem rcombining_t (t : Nat) (r : Int) (w : World) (h : RTabs w t) : Calls Tryz.prog 66 #[.pointer (some ⟨t, 0, none⟩), .int .i64 r] w fun e w' => e = .returned (.int .i64 (iF comL r)) ∧ Below w.heap.size w w' := by
  obtain ⟨v, hc, hV⟩ := h.com
  have C := or_any v comL r [48] w hV com_ok.1 com_ok.2.1 com_ok.2.2
  obtain ⟨e1, e2⟩ := comF_first r
  rw [e1]
  clear e1
  generalize orF comL r [48] = D at *
  rw [show BA [48] = ⟨#[48]⟩ from rfl] at C
  obtain ⟨a, c, rfl⟩ := view_sl hV
  generalize (comL.map recOf).length = n at *
  have hbz : (BA D).size = D.length := BA_size D
  have HNX : Hid (∀ k (h : k < (BA D).size), D.take (k + 1) = D.take k ++ [(BA D)[k]'h]) := fun k h => by
    have hk : k < D.length := by rw [← hbz]; exact h
    rw [List.take_add_one, List.getElem?_eq_getElem hk]; rfl
  have HDB : Hid (∀ k, 0 ≤ digL (D.take k) ∧ digL (D.take k) ≤ 28305) := fun k => dig_bound _ (by rw [List.length_take]; omega)
  have HAL : Hid (D.take (BA D).size = D) := List.take_of_length_le (by omega)
  clear h hV
  go_enter Tryz.func66, Tryz.ntmps66
  go_wp2_with fail
  refine C.mono ?_
  rintro e w1 ⟨rfl, hb⟩
  clear C
  go_wp2
  go_loopw [5, 7] (fun u5 u7 wr => ∃ k : Nat, k ≤ (BA D).size ∧ u7 = .int .i64 k ∧ u5 = .int .i64 (digL (D.take k)) ∧ wr = w1) (fun _ u7 _ => (BA D).size - (RowKit.intOf u7).toNat)
  case atStart => exact ⟨0, Nat.zero_le _, rfl, rfl, rfl⟩
  case round =>
    obtain ⟨k, hk, rfl, rfl, hwr⟩ := hrel
    subst hwr
    by_cases hlt : k < (BA D).size
    · have hlt' : (k : Int) < ((BA D).size : Int) := by omega
      have htk := HNX.out k hlt
      have hd := dig_snoc (D.take k) ((BA D)[k]'hlt)
      rw [← htk] at hd
      obtain ⟨d1, d2⟩ := HDB.out k
      have hs := sub48 ((BA D)[k]'hlt)
      have h256 : (((BA D)[k]'hlt) - 48).toNat < 256 := UInt8.toNat_lt _
      have HDN : Hid (digL (D.take (k + 1)) = 10 * digL (D.take k) + ((((BA D)[k]'hlt) - 48).toNat : Int)) := hd
      clear htk hd
      generalize digL (D.take k) = N at *
      generalize hM : ((((BA D)[k]'hlt) - 48).toNat : Int) = M at *
      have m1 : 0 ≤ M ∧ M < 256 := by omega
      have x1 : IntKind.i64.wrap (10 * N) = 10 * N := by rw [IntKind.wrap_i64]; omega
      have x2 : IntKind.i64.wrap M = M := by rw [IntKind.wrap_i64]; omega
      have x3 : IntKind.i64.wrap (10 * N + M) = 10 * N + M := by rw [IntKind.wrap_i64]; omega
      have x4 : wrap64 (10 * N) = 10 * N := by unfold wrap64; omega
      have x5 : wrap64 M = M := by unfold wrap64; omega
      have x6 : wrap64 (10 * N + M) = 10 * N + M := by unfold wrap64; omega
      have HS2 : Hid (((((BA D)[k]'hlt).toNat : Int) - 48) % 256 = M) := by
        have := hs
        simp [IntKind.wrap, IntKind.signed, IntKind.bits] at this
        exact this
      clear hM h256
      go_wp2
      refine ⟨⟨k + 1, by omega, by go_num, ?_, by first | rfl | trivial⟩, by simp [RowKit.intOf]; omega⟩
      rw [HDN.out]
    · have hge : ¬ (k : Int) < ((BA D).size : Int) := by omega
      obtain rfl : k = (BA D).size := by omega
      rw [HAL.out]
      go_wp2
      go_ret
      exact ⟨rfl, hb⟩
end Go.Proofs.YtlidgjkipbijlaaGreatDoor.prp
end
