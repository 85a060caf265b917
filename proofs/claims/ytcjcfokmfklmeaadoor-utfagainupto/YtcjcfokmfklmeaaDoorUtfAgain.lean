/- The walk of UtfAgain: what is read and written anew is the same where, and only where, all bytes are well-formed. -/
import Derived.Test.YtcjcfokmfklmeaaDoorUtfPure3
import Derived.Test.YtcjcfokmfklmeaaDoorUtfStands
set_option linter.unusedVariables false
set_option linter.unusedSimpArgs false
namespace Go.Proofs.YtcjcfokmfklmeaaDoor.utf
open Go.RowKit

theorem byte_inj (x y : Int) (hx : 0 ≤ x ∧ x ≤ 255) (hy : 0 ≤ y ∧ y ≤ 255) (h : UInt8.ofNat x.toNat = UInt8.ofNat y.toNat) : x = y := by
  have := congrArg UInt8.toNat h
  simp at this
  omega
theorem bytesOf_inj : ∀ (xs ys : List Int), (∀ x ∈ xs, 0 ≤ x ∧ x ≤ 255) → (∀ y ∈ ys, 0 ≤ y ∧ y ≤ 255) → Lib.bytesOf xs = Lib.bytesOf ys → xs = ys
  | [], [], _, _, _ => rfl
  | [], y :: ys, _, _, h => by simp [Lib.bytesOf] at h
  | x :: xs, [], _, _, h => by simp [Lib.bytesOf] at h
  | x :: xs, y :: ys, hx, hy, h => by
    simp only [Lib.bytesOf, List.map_cons, List.cons.injEq] at h
    have h1 := byte_inj x y (hx x (by simp)) (hy y (by simp)) h.1
    have h2 := bytesOf_inj xs ys (fun z hz => hx z (by simp [hz])) (fun z hz => hy z (by simp [hz])) h.2
    rw [h1, h2]
theorem enc_mem (r : Int) : ∀ x ∈ enc r, 0 ≤ x ∧ x ≤ 255 := by
  intro x hx
  obtain ⟨i, hi, rfl⟩ := List.getElem_of_mem hx
  have := enc_range r i
  rw [List.getD_eq_getElem?_getD, List.getElem?_eq_getElem hi] at this
  exact this
theorem encs_mem (l : List (Int × Nat × Nat)) : ∀ x ∈ encs l, 0 ≤ x ∧ x ≤ 255 := by
  intro x hx
  simp only [encs, List.mem_flatMap] at hx
  obtain ⟨y, _, hy⟩ := hx
  exact enc_mem _ x hy
theorem seg_lst (f : Nat → Int) (n : Nat) : seg f 0 n = lst f n := by simp [seg, lst]
theorem again_eq (f : Nat → Int) (n : Nat) (hf : ∀ i, 0 ≤ f i ∧ f i ≤ 255) : (Lib.bytesOf (encs (items f n 0)) == Lib.bytesOf (lst f n)) = valid f n 0 := by
  have h := again f n hf (n - 0) 0 rfl (Nat.zero_le _)
  rw [Nat.sub_zero, seg_lst] at h
  have hm : ∀ y ∈ lst f n, 0 ≤ y ∧ y ≤ 255 := by
    intro y hy
    simp only [lst, List.mem_map] at hy
    obtain ⟨i, _, rfl⟩ := hy
    exact hf i
  cases hv : valid f n 0 with
  | true => rw [h.2 hv]; simp
  | false =>
    rw [beq_eq_false_iff_ne]
    intro e
    have := h.1 (bytesOf_inj _ _ (encs_mem _) hm e)
    rw [hv] at this
    exact absurd this (by simp)

theorem bts_own {w : World} {B : Nat} {v : Value} {d : List Int} (h : w.ownsRow B 5 1 v d.length (d.map (Value.int .u8))) : Bts w v d := by
  rcases h.2 with ⟨rfl, h0⟩ | ⟨g, cap, cur, rfl, _⟩
  · obtain rfl := List.eq_nil_of_length_eq_zero h0
    exact bts_nil w 0 0
  · refine bts_cells cap fun i hi => ?_
    rw [Nat.zero_add, h.cellAt i (by omega)]
    simp [hi]

theorem cell_of_heap {w : World} {g j : Nat} {cs : Array Value} {t : TypeId} {fr : Nat × Nat} (h : w.heap[g]? = some (.cells cs t fr)) : w.cell? ⟨g, j, none⟩ = cs[j]? := by
  simp [World.cell?, h]
theorem enc_news (w : World) (o : Obj) (r : Int) : ∀ (j : Nat) (u : Value), ((enc r).map (Value.int .u8))[j]? = some u → ((w.alloc o).alloc (encBlock r)).cell? ((⟨w.heap.size + 1, 0, none⟩ : Addr).add j) = some u := by
  intro j u hj
  rw [Addr.add_lit, Nat.zero_add, cell_of_heap (heap_two2 w o (encBlock r))]
  simpa using hj

theorem again_zero (ao : Option Addr) (cap : Nat) (w : World) (hm : Marks w) (hnil : ao = none → 0 = 0) :
    Calls Tryd.prog 8 #[.slice ao 0 cap] w fun e w' => e = .returned (.bool true) ∧ Below w.heap.size w w' := by
  have D := decode_none ao cap w
  have V := valid_none ao cap w
  have EQ := beq_same _ _ _ _ (bts_nil w 0 0) (bts_isB (f := fun _ => 0) cap (.inl rfl : IsB w ao 0 (fun _ => 0)) hnil)
  have AW := awake_any w hm
  clear hm hnil
  go_enter Tryd.func8, Tryd.ntmps8
  go_wp2_with (go_at_call 11; refine D.mono ?_; rintro e w' ⟨rfl, hw⟩; subst hw)
  refine wp_loop_rounds 1 ?_
  rw [rounds_succ]
  go_wp2_with (first
    | (go_at_call 15; refine EQ.mono ?_; rintro e w' ⟨rfl, hw⟩; subst hw)
    | (go_at_call 13; refine V.mono ?_; rintro e w' ⟨rfl, hw⟩; subst hw)
    | (go_at_call 16; refine AW.mono ?_; rintro e w' ⟨rfl, hbel⟩))
  go_ret
  exact ⟨rfl, by assumption⟩

set_option maxHeartbeats 1000000 in
theorem again_pos (ao : Option Addr) (n cap : Nat) (f : Nat → Int) (w : World) (hm : Marks w) (hB : IsB w ao n f) (h0 : 0 < n) (hnil : ao = none → n = 0) (hn : n * 24 ≤ 140737488355328) (hf : ∀ i, 0 ≤ f i ∧ f i ≤ 255) :
    Calls Tryd.prog 8 #[.slice ao n cap] w fun e w' => e = .returned (.bool true) ∧ Below w.heap.size w w' := by
  obtain ⟨i0, hi, hz0, hz1, hz2⟩ := info_parts infoByte
  have D := decode_pos ao n cap f w hB h0 hn hf
  have hlen := items_le f n (n - 0) 0 rfl
  have HM : Hid (Marks w) := hm
  have HB : Hid (IsB w ao n f) := hB
  have HF : Hid (∀ i, 0 ≤ f i ∧ f i ≤ 255) := hf
  have HN : Hid (ao = none → n = 0) := hnil
  have HA : Hid ((Lib.bytesOf (encs (items f n 0)) == Lib.bytesOf (lst f n)) = valid f n 0) := again_eq f n hf
  clear hm hB hf hnil
  go_enter Tryd.func8, Tryd.ntmps8
  go_wp2_with fail
  refine D.mono ?_
  rintro e w1 ⟨g, c, rfl, hown, hb1⟩
  have HI : Hid (IsI w1 g (items f n 0).length _ _ _) := isI_of (n := 0) hown
  clear D hown
  generalize hl : items f n 0 = l at *
  have HL' : Hid (l.drop 0 = items f n 0) := by rw [hl]; rfl
  have HE' : Hid ([] ++ encs (items f n 0) = encs l) := by rw [hl]; rfl
  clear hl
  have hs1 := hb1.size
  go_wp2
  go_loopw [3, 11] (fun v i wr => ∃ (k a : Nat) (d : List Int), k ≤ l.length ∧ a ≤ n ∧ i = .int .i64 k ∧ d.length ≤ 4 * k ∧ wr.ownsRow w1.heap.size 5 1 v d.length (d.map (Value.int .u8)) ∧ Hid (d ++ encs (items f n a) = encs l) ∧ Hid (l.drop k = items f n a) ∧ Below w1.heap.size w1 wr)
    (fun _ i _ => l.length - (intOf i).toNat)
  case atStart => exact ⟨0, 0, [], Nat.zero_le _, Nat.zero_le _, rfl, by simp, World.ownsRow_nil _ _ _ _, HE', HL', Below.refl _ _⟩
  case round =>
    obtain ⟨k, a, d, hk, ha, rfl, hd4, hown, HE, HD, hbel⟩ := hrel
    by_cases hlt : k < l.length
    · obtain ⟨han, hgd, hdr⟩ := drop_step HD.out hlt
      have hie := it_end f n a han
      have hc := (HI.out.below hbel) k hlt
      simp only [hgd] at hc
      obtain ⟨p1, p2, p3⟩ := hc
      have HD2 : Hid (l.drop (k + 1) = items f n (it f n a).2.1) := hdr
      have HE2 : Hid ((d ++ enc (it f n a).1) ++ encs (items f n (it f n a).2.1) = encs l) := by
        have := HE.out
        rw [items_step f n a han, encs_cons] at this
        rw [List.append_assoc]; exact this
      have hln := it_len f n a HF.out
      have hep := enc_pos _ hln
      have hb2 := hb1.trans (hbel.mono hs1)
      have hs2 := hbel.size
      have EN := enc_yes (it f n a).1 (wr.alloc (.cells #[.int .i64 (it f n a).1, .int .i64 a, .int .i64 (it f n a).2.1] 27)) hln ((HM.out.below hb2).alloc _)
      have NW := enc_news wr (.cells #[.int .i64 (it f n a).1, .int .i64 a, .int .i64 (it f n a).2.1] 27) (it f n a).1
      have HV : Hid (∀ k, u3.ownBlock = some k → w1.heap.size ≤ k) := fun k e => (hown.lt _ e).1
      have R2 := (hbel.alloc hs2 (.cells #[.int .i64 (it f n a).1, .int .i64 a, .int .i64 (it f n a).2.1] 27)).alloc (by simp; omega) (encBlock (it f n a).1)
      have HO := (hown.alloc (.cells #[.int .i64 (it f n a).1, .int .i64 a, .int .i64 (it f n a).2.1] 27)).alloc (encBlock (it f n a).1)
      have HNW : Hid (∀ (j : Nat) (u : Value), ((enc (it f n a).1).map (Value.int .u8))[j]? = some u → ((wr.alloc (.cells #[.int .i64 (it f n a).1, .int .i64 a, .int .i64 (it f n a).2.1] 27)).alloc (encBlock (it f n a).1)).cell? ((⟨wr.heap.size + 1, 0, none⟩ : Addr).add j) = some u) := NW
      have HOH := HO
      simp only [World.size_alloc] at EN
      clear HD HE hgd hdr NW hln hbel hown HO hb2
      generalize (it f n a).2.1 = E at *
      generalize (it f n a).1 = R at *
      go_wp2_with fail
      refine EN.mono ?_
      rintro e w2 ⟨rfl, rfl⟩
      generalize hX : encBlock R = X at *
      clear hX EN
      go_wp2_with (at_builtin; refine wpList_append_own _ rfl _ _ 22 rfl w1.heap.size 5 i0 (.int .u8 0) 1 1 Tryd.underlying22 hi hz0 hz1 hz2 rfl (by decide) _ _ _ rfl HOH ⟨wr.heap.size + 1, 0, none⟩ (enc R).length (enc R).length ((enc R).map (Value.int .u8)) rfl ?c0 ?c1 ?c2 ?c3 ?c4 ?c5 ?_)
      case c0 => simp
      case c1 => exact HNW.out
      case c2 => intro u hu; simp at hu; obtain ⟨x, _, rfl⟩ := hu; rfl
      case c3 => unfold maxLen; omega
      case c4 => omega
      case c5 => simp; omega
      · intro v' w3 hown3 hgrow _
        have R3 := Below.grown R2 hgrow (by simp; omega) HV.out
        have R1 : w3.ownsRow w1.heap.size 5 1 v' (d ++ enc R).length ((d ++ enc R).map (Value.int .u8)) := by
          rw [List.length_append, List.map_append]; exact hown3
        clear hown3 hgrow HOH R2
        go_wp2
        go_roundw
        case rel => exact ⟨k + 1, E, d ++ enc R, by omega, by omega, by go_num, by simp; omega, R1, HE2, HD2, R3⟩
        case measure => simp [intOf]; omega
    · have hna := drop_last HD.out (by omega)
      have hd : d = encs l := by
        have := HE.out
        rw [items_end f n a hna] at this
        simpa [encs] using this
      have hb2 := hb1.trans (hbel.mono hs1)
      have BQ := beq_any _ _ _ _ _ (bts_own hown) (bts_isB cap (HB.out.below hb2) HN.out)
      rw [hd, HA.out] at BQ
      have V := valid_any ao n cap f wr (HB.out.below hb2) (by omega) HF.out
      have e0 := eq_self (valid f n 0)
      clear HD HE hd hown hd4
      generalize valid f n 0 = B at *
      go_wp2_with (go_at_call 15; refine BQ.mono ?_; rintro e w' ⟨rfl, hw⟩; subst hw)
      refine V.mono ?_
      rintro e w3 ⟨rfl, hb3⟩
      have hb3' := hb2.trans (hb3.mono hb2.size)
      have AW := awake_any w3 (HM.out.below hb3')
      clear V BQ hb3
      go_wp2_with (go_at_call 16; refine AW.mono ?_; rintro e w' ⟨rfl, hbel⟩)
      go_ret
      exact ⟨rfl, hb3'.trans (Below.mono (by assumption) hb3'.size)⟩
theorem again_any (ao : Option Addr) (n cap : Nat) (f : Nat → Int) (w : World) (hm : Marks w) (hB : IsB w ao n f) (hn : n * 24 ≤ 140737488355328 ∧ n ≤ cap ∧ cap ≤ 9223372036854775807 ∧ (ao = none → n = 0)) (hf : ∀ i, 0 ≤ f i ∧ f i ≤ 255) :
    Calls Tryd.prog 8 #[.slice ao n cap] w fun e w' => e = .returned (.bool true) ∧ Below w.heap.size w w' := by
  rcases Nat.eq_zero_or_pos n with rfl | h0
  · exact again_zero ao cap w hm (fun _ => rfl)
  · exact again_pos ao n cap f w hm hB h0 hn.2.2.2 hn.1 hf
end Go.Proofs.YtcjcfokmfklmeaaDoor.utf
