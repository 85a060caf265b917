/- Texts that the proof leans on, one behind the other. -/
import Derived.Test.YtnjomfmdogkhgaaGreatDoorBnd23
import Derived.Test.YtnjomfmdogkhgaaGreatDoorBnd24
import Derived.Test.YtnjomfmdogkhgaaGreatDoorBnd29
import Derived.Test.YtnjomfmdogkhgaaGreatDoorBnd28
import Derived.Laws.AppendOwnNone
import Derived.Test.YtnjomfmdogkhgaaGreatDoorBnd17

section
/- The set of a category. -/
set_option linter.unusedVariables false
set_option linter.unusedSimpArgs false
namespace Go.Proofs.YtnjomfmdogkhgaaGreatDoor.prp
open Go.RowKit Go.Maps lin
open Go.Proofs.YtnjomfmdogkhgaaGreatDoor.rng (R has IsSet Sl code)

theorem ranges_tab (tb vb : Nat) (vals : List (List UInt8)) (s : List tri.E) (F : Int → List UInt8) (v : List UInt8) (w : World) (h : str.TabIs w tb vb vals s F) :
    Calls Tryz.prog 54 #[.pointer (some ⟨tb, 0, none⟩), .string (BA v)] w fun e w' => ∃ v' r, e = .returned v' ∧ rng.Own w' w.heap.size v' r ∧ IsSet r (fun x => decide (F x = v)) ∧ Below w.heap.size w w' := by
  refine (tri.str.ranges_any _ _ tb s (BA v) w h.tr h.ris).mono ?_
  rintro e w' ⟨v', r, rfl, ho, hs, hb⟩
  refine ⟨v', r, rfl, ho, hs.congr (fun x hx => ?_), hb⟩
  have hc := (rng.code_iff x).1 hx
  obtain ⟨i, h1, h2⟩ := h.tell x hc.1 hc.2
  simp only [h1, Int.toNat_natCast]
  rw [List.getD_eq_getElem?_getD, h2, Option.getD_some]
  have hd : (BA (F x) == BA v) = ((BA (F x)).data == (BA v).data) := rfl
  rw [hd]
  by_cases e : F x = v
  · rw [decide_eq_true e, e, beq_self_eq_true]
  · rw [decide_eq_false e, beq_eq_false_iff_ne]
    intro e2
    have := congrArg Array.toList e2
    rw [BA_data, BA_data] at this
    exact e this

def catF : Int → List UInt8 := sF [67, 110] catL
/-- The code points of a category, or of all that begin so. -/
def catP (v : List UInt8) (x : Int) : Bool := if 1 < v.length then decide (catF x = v) else Lib.hasPrefix (catF x) v
theorem cat_few : catL.length ≤ 200 := by decide +kernel
theorem cat_vals : (sV [67, 110] catL).length ≤ 201 := by
  have := (tall_inv [67, 110] (catL.map str.trip) (fun x hx => by
    obtain ⟨y, hy, rfl⟩ := List.mem_map.1 hx
    have := str.tfit_spec (cat_tfit y hy)
    exact ⟨this.1, this.2.1, this.2.2.1⟩)).len
  rw [List.length_map] at this
  have := cat_few
  unfold sV
  omega
theorem cat_rlen (c : List UInt8) (r : List R) (h : IsSet r (fun x => decide (catF x = c))) : r.length ≤ 401 := by
  have := lastV_set_len [67, 110] c (catL.map str.trip) r h
  rw [List.length_map] at this
  have := cat_few
  omega

set_option maxHeartbeats 4000000 in
set_option maxRecDepth 1000000 in
theorem categories_t (t : Nat) (v : List UInt8) (w : World) (h : Tabs w t) : Calls Tryz.prog 53 #[.pointer (some ⟨t, 0, none⟩), .string (BA v)] w fun e w' => ∃ v' r, e = .returned v' ∧ rng.Own w' w.heap.size v' r ∧ IsSet r (catP v) ∧ Below w.heap.size w w' := by
  obtain ⟨tb, vb, vc, s, c0, c1, ht⟩ := h.cat
  have hbs : (BA v).size = v.length := BA_size v
  by_cases h1 : 1 < v.length
  · have D := ranges_tab tb vb _ s _ v w ht
    have HP : Hid (∀ r, IsSet r (fun x => decide (sF [67, 110] catL x = v)) → IsSet r (catP v)) := fun r hr => hr.congr (fun x _ => by unfold catP; rw [if_pos h1]; rfl)
    have h1' : (1 : Int) < ((BA v).size : Int) := by omega
    clear h ht c1 hbs h1
    generalize BA v = B at *
    go_enter Tryz.func53, Tryz.ntmps53
    go_wp2_with fail
    refine D.mono ?_
    rintro e w1 ⟨v', r, rfl, ho, hs, hb⟩
    clear D
    have hs2 := HP.out r hs
    clear hs
    go_wp2
    go_ret
    exact ⟨_, r, rfl, ho, hs2, hb⟩
  · obtain ⟨i0, hi, hz0, hz1, hz2⟩ := rng.info_parts rng.infoRange
    have HT : Hid (str.TabIs w tb vb (sV [67, 110] catL) s (sF [67, 110] catL)) := ht
    have hvl := cat_vals
    have HGET : Hid (∀ (i : Nat) c, (sV [67, 110] catL)[i]? = some c → w.cell? ⟨vb, i, none⟩ = some (.string (BA c))) := ht.vs
    have HNX : Hid (∀ (i : Nat) c, (sV [67, 110] catL)[i]? = some c → (sV [67, 110] catL).take (i + 1) = (sV [67, 110] catL).take i ++ [c]) := fun i c hi => by rw [List.take_add_one, hi]; rfl
    have HLK : Hid (∀ i, i < (sV [67, 110] catL).length → ∃ c, (sV [67, 110] catL)[i]? = some c) := fun i hi => ⟨_, List.getElem?_eq_getElem hi⟩
    have HEND : Hid (∀ r, (∀ x, code x = true → has r x = (sV [67, 110] catL).any (fun c => Lib.hasPrefix c v && decide (catF x = c))) → ∀ r2, IsSet r2 (has r) → IsSet r2 (catP v)) := fun r hr r2 h2 => h2.congr (fun x hx => by
      rw [hr x hx]
      unfold catP
      rw [if_neg h1]
      have hc := (rng.code_iff x).1 hx
      obtain ⟨i, _, hm⟩ := ht.tell x hc.1 hc.2
      have hm' := List.mem_of_getElem? hm
      cases hp : Lib.hasPrefix (catF x) v with
      | true => rw [List.any_eq_true]; exact ⟨catF x, hm', by rw [hp, decide_eq_true rfl]; rfl⟩
      | false =>
        rw [List.any_eq_false]
        intro c _ hcc
        simp only [Bool.and_eq_true, decide_eq_true_eq] at hcc
        rw [hcc.2, hcc.1] at hp
        cases hp)
    have h1' : ¬ (1 : Int) < ((BA v).size : Int) := by omega
    have HPC : Hid (∀ c W, Calls Tryz.prog 78 #[.string (BA c), .string (BA v)] W fun e w' => e = .returned (.bool (Lib.hasPrefix c v)) ∧ w' = W) := fun c W => by
      have := Tryz.strings_HasPrefix (BA c) (BA v) W
      rw [BA_data, BA_data] at this
      exact this
    clear h ht hbs
    generalize sV [67, 110] catL = vals at *
    generalize hvn : vals.length = vn at *
    generalize hB : BA v = B at *
    clear hB
    go_enter Tryz.func53, Tryz.ntmps53
    go_wp2
    go_loopw [24, 5] (fun i u5 wr => ∃ (k : Nat) (out : List R), k ≤ vn ∧ i = .int .i64 k ∧ out.length ≤ 401 * k ∧ Hid (∀ x, code x = true → has out x = (vals.take k).any (fun c => Lib.hasPrefix c v && decide (catF x = c))) ∧ Hid (rng.Own wr w.heap.size u5 out) ∧ Below w.heap.size w wr) (fun i _ _ => vn - (RowKit.intOf i).toNat)
    case atStart => exact ⟨0, [], Nat.zero_le _, rfl, Nat.zero_le _, fun x hx => by simp [rng.has], World.ownsRow_nil _ _ _ _, Below.refl _ _⟩
    case round =>
      obtain ⟨k, out, hk, rfl, hol, HO, hown, hbel⟩ := hrel
      have hbs := hbel.size
      by_cases hlt : k < vn
      · have hlt' : (k : Int) < (vn : Int) := by omega
        obtain ⟨c, hc⟩ := HLK.out k (by omega)
        have q0 := cell_below hbel (HGET.out k c hc)
        have q1 := cell_below hbel c0
        have HTK := HNX.out k c hc
        have C := HPC.out c wr
        have HR := ranges_tab tb vb _ s _ c wr (HT.out.below hbel)
        have HHR : Hid (Calls Tryz.prog 54 #[.pointer (some ⟨tb, 0, none⟩), .string (BA c)] wr fun e w' => ∃ v' r, e = .returned v' ∧ rng.Own w' wr.heap.size v' r ∧ IsSet r (fun x => decide (catF x = c)) ∧ Below wr.heap.size wr w') := HR
        have HEX : Hid (∀ x, code x = true → (vals.take (k + 1)).any (fun c => Lib.hasPrefix c v && decide (catF x = c)) = (has out x || (Lib.hasPrefix c v && decide (catF x = c)))) := fun x hx => by rw [HTK, List.any_append, HO.out x hx]; simp
        clear HR HTK hc
        go_wp2_with fail
        refine C.mono ?_
        rintro e w1 ⟨rfl, hw⟩
        rw [hw]
        clear C hw
        cases hp : Lib.hasPrefix c v with
        | false =>
          have HN : Hid (∀ x, code x = true → has out x = (vals.take (k + 1)).any (fun c => Lib.hasPrefix c v && decide (catF x = c))) := fun x hx => by rw [HEX.out x hx, hp]; simp
          clear hp HEX HHR HO
          go_wp2
          go_roundw
          case rel => exact ⟨k + 1, out, by omega, by go_num, by omega, HN, hown, hbel⟩
          case measure => simp [RowKit.intOf]; omega
        | true =>
          have C := HHR.out
          have HN : Hid (∀ r, IsSet r (fun x => decide (catF x = c)) → ∀ x, code x = true → has (out ++ r) x = (vals.take (k + 1)).any (fun c => Lib.hasPrefix c v && decide (catF x = c))) := fun r hr x hx => by rw [HEX.out x hx, hp, rng.has_append, hr.2 x hx]; simp
          clear hp HEX HHR HO
          go_wp2_with fail
          refine C.mono ?_
          rintro e w2 ⟨v', r, rfl, ho, hs, hb⟩
          clear C
          have hrl := cat_rlen c r hs
          have HN2 := HN.out r hs
          have HN3 : Hid (∀ x, code x = true → has (out ++ r) x = (vals.take (k + 1)).any (fun c => Lib.hasPrefix c v && decide (catF x = c))) := HN2
          have hown2 : Hid (rng.Own w2 w.heap.size u5 out) := own_below hown.out hb
          have hb2 := hbel.trans (hb.mono hbs)
          have hb2s := hb2.size
          have hlen : (out ++ r).length ≤ 401 * (k + 1) := by rw [List.length_append]; omega
          have HW : Hid (∀ k, u5.ownBlock = some k → w.heap.size ≤ k) := fun k e => (hown2.out.lt k e).1
          clear HN HN2 hs hown
          rcases ho.2 with ⟨hnil, hr0⟩ | ⟨g, cap, cur, hsl, hg⟩
          · subst hnil
            obtain rfl : r = [] := List.eq_nil_of_length_eq_zero hr0
            rw [List.append_nil] at HN3 hlen
            go_wp2_with (at_builtin; refine wpList_append_own_none rfl _ _ 34 rfl w.heap.size 40 i0 2 Tryz.underlying34 hi _ _ _ rfl hown2.out rfl ?_)
            go_wp2
            go_roundw
            case rel => exact ⟨k + 1, out, by omega, by go_num, hlen, HN3, hown2, hb2⟩
            case measure => simp [RowKit.intOf]; omega
          · clear hg
            subst hsl
            have hnews : ∀ (j : Nat) u, (rng.flat r)[j]? = some u → w2.cell? ((⟨g, 0, none⟩ : Addr).add j) = some u := fun j u hj => by
              rw [Addr.add_lit, Nat.zero_add, ho.cellAt j (by rw [← rng.flat_length]; exact (List.getElem?_eq_some_iff.1 hj).1)]
              exact hj
            have HNW : Hid (∀ (j : Nat) u, (rng.flat r)[j]? = some u → w2.cell? ((⟨g, 0, none⟩ : Addr).add j) = some u) := hnews
            have HFL : Hid ((rng.flat r).length = r.length * 2) := rng.flat_length r
            clear hnews ho
            generalize hrn : r.length = rn at *
            go_wp2_with (at_builtin; refine wpList_append_own _ rfl _ _ 34 rfl w.heap.size 40 i0 (.agg #[.int .i64 0, .int .i64 0]) 2 16 Tryz.underlying34 hi hz0 hz1 hz2 rfl (by decide) _ _ _ rfl hown2.out ⟨g, 0, none⟩ rn cap (rng.flat r) rfl HFL.out HNW.out (rng.flat_one r) ?c3 ?c4 ?c5 ?_)
            case c3 => unfold maxLen; omega
            case c4 => omega
            case c5 => omega
            · intro v4 w4 hown4 hgrow _
              have R2 := Below.grown hb2 hgrow hb2s HW.out
              have R1 : Hid (rng.Own w4 w.heap.size v4 (out ++ r)) := by
                unfold Hid rng.Own; rw [rng.flat_append, List.length_append, hrn]; exact hown4
              clear hown4 hgrow
              go_wp2
              go_roundw
              case rel => exact ⟨k + 1, out ++ r, by omega, by go_num, hlen, HN3, R1, R2⟩
              case measure => simp [RowKit.intOf]; omega
      · have hge : ¬ (k : Int) < (vn : Int) := by omega
        have HO2 : Hid (∀ x, code x = true → has out x = vals.any (fun c => Lib.hasPrefix c v && decide (catF x = c))) := fun x hx => by
          have := HO.out x hx
          rw [List.take_of_length_le (by omega)] at this
          exact this
        obtain ⟨ao, cap, rfl, hrv, _, _⟩ := rng.Own.view hown.out
        have C := rng.make_any ao cap out wr (by omega) hrv
        have HB : Hid (Below w.heap.size w wr) := hbel
        clear HO hown hrv
        generalize out.length = ol at *
        go_wp2_with fail
        refine C.mono ?_
        rintro e w2 ⟨v2, r2, rfl, o2, i2, b2⟩
        clear C
        have hfin := HEND.out out HO2.out r2 i2
        have O2 : Hid (rng.Own w2 wr.heap.size v2 r2) := o2
        clear i2 o2
        go_wp2
        go_ret
        exact ⟨_, r2, rfl, rng.own_mono O2.out hbs, hfin, HB.out.trans (b2.mono hbs)⟩
end Go.Proofs.YtnjomfmdogkhgaaGreatDoor.prp
end

section
/- The set of a property that is so or not; the set of an expression. -/
set_option linter.unusedVariables false
set_option linter.unusedSimpArgs false
namespace Go.Proofs.YtnjomfmdogkhgaaGreatDoor.prp
open Go.RowKit Go.Maps lin
open Go.Proofs.YtnjomfmdogkhgaaGreatDoor.rng (R IsSet Sl code)

theorem beqT (c : List UInt8) : ((BA c).toList == c) = true := by rw [Lib.toList_data, BA_data]; exact beq_self_eq_true _
theorem beqF {v c : List UInt8} (h : v ≠ c) : ((BA v).toList == c) = false := by rw [Lib.toList_data, BA_data, beq_eq_false_iff_ne]; exact h
def spaceR : List R := [(9, 13), (32, 32), (133, 133), (160, 160), (8232, 8233)]
/-- The code points of a property that is so or not. -/
def binP (v : List UInt8) (x : Int) : Bool :=
  if v = [65, 110, 121] then true else if v = [65, 83, 67, 73, 73] then decide (x ≤ 127) else if v = [65, 108, 112, 104, 97] then catP [76] x || catP [78, 108] x
  else if v = [76, 111, 119, 101, 114] then catP [76, 108] x else if v = [85, 112, 112, 101, 114] then catP [76, 117] x else if v = [115, 112, 97, 99, 101] then rng.has spaceR x else false
theorem any_set : IsSet [((0 : Int), (1114111 : Int))] (fun _ => true) := ⟨by simp [rng.CanF], fun x hx => by rw [rng.has_iff]; have := (rng.code_iff x).1 hx; exact ⟨hx, _, List.mem_singleton.2 rfl, this⟩⟩
theorem ascii_set : IsSet [((0 : Int), (127 : Int))] (fun x => decide (x ≤ 127)) := ⟨by simp [rng.CanF], fun x hx => by
  have := (rng.code_iff x).1 hx
  rw [Bool.eq_iff_iff, rng.has_iff, decide_eq_true_eq]
  constructor
  · rintro ⟨_, p, hp, h⟩; rw [List.mem_singleton.1 hp] at h; exact h.2
  · intro h; exact ⟨hx, _, List.mem_singleton.2 rfl, this.1, h⟩⟩
theorem space_set : IsSet spaceR (rng.has spaceR) := IsSet.self ((rng.canB_iff 0 spaceR).1 (by decide))
theorem no_set : IsSet [] (fun _ => false) := ⟨trivial, fun x hx => rng.has_nil x⟩
theorem lit_own (w : World) (l : List R) (cs : Array Value) (h : cs.toList = rng.flat l) (hn : l.length ≤ 1000) : rng.Own (w.alloc (.cells cs 40)) w.heap.size (.slice (some ⟨w.heap.size, 0, none⟩) l.length l.length) l := by
  have := World.ownsRow_lit (base := w.heap.size) (e := 40) (size := 2) w cs l.length (Nat.le_refl _) (by unfold maxLen; omega) (by rw [← Array.length_toList, h, rng.flat_length])
  rw [h] at this
  exact this
theorem can_len : ∀ (r : List R) (m : Int), 0 ≤ m → rng.CanF m r → (r.length : Int) * 2 ≤ max 0 (1114113 - m) := by
  intro r
  induction r with
  | nil => intro m _ _; simp; omega
  | cons q r ih =>
    intro m hm h
    obtain ⟨h1, h2, h3, h4⟩ := h
    have := ih _ (by omega) h4
    simp only [List.length_cons]
    omega
theorem rlen {r : List R} {f : Int → Bool} (h : IsSet r f) : r.length ≤ 1000000 := by
  have := can_len r 0 (Int.le_refl _) h.1
  omega
set_option maxHeartbeats 2000000 in
set_option maxRecDepth 1000000 in
theorem binary_t (t : Nat) (v : List UInt8) (w : World) (h : Tabs w t) : Calls Tryz.prog 55 #[.pointer (some ⟨t, 0, none⟩), .string (BA v)] w fun e w' => ∃ v' r, e = .returned v' ∧ rng.Own w' w.heap.size v' r ∧ IsSet r (binP v) ∧ Below w.heap.size w w' := by
  by_cases h0 : v = [65, 110, 121]
  · have hP : binP v = fun _ => true := by funext x; unfold binP; rw [if_pos h0]
    rw [hP]
    have g0 : ((BA v).toList == [65, 110, 121]) = true := by rw [h0]; exact beqT _
    clear hP h0
    generalize BA v = B at *
    clear h
    go_enter Tryz.func55, Tryz.ntmps55
    go_wp2
    try rw [Exit.noGoto_ret]
    go_ret
    exact ⟨_, [(0, 1114111)], rfl, lit_own w _ _ rfl (by decide), any_set, (Below.refl _ w).alloc (Nat.le_refl _) _⟩
  by_cases h1 : v = [65, 83, 67, 73, 73]
  · have hP : binP v = fun x => decide (x ≤ 127) := by funext x; unfold binP; rw [if_neg h0, if_pos h1]
    rw [hP]
    have g0 := beqF h0
    have g1 : ((BA v).toList == [65, 83, 67, 73, 73]) = true := by rw [h1]; exact beqT _
    clear hP h0 h1
    generalize BA v = B at *
    clear h
    go_enter Tryz.func55, Tryz.ntmps55
    go_wp2
    try rw [Exit.noGoto_ret]
    go_ret
    exact ⟨_, [(0, 127)], rfl, lit_own w _ _ rfl (by decide), ascii_set, (Below.refl _ w).alloc (Nat.le_refl _) _⟩
  by_cases h2 : v = [65, 108, 112, 104, 97]
  · have hP : binP v = fun x => catP [76] x || catP [78, 108] x := by funext x; unfold binP; rw [if_neg h0, if_neg h1, if_pos h2]
    rw [hP]
    have g0 := beqF h0
    have g1 := beqF h1
    have g2 : ((BA v).toList == [65, 108, 112, 104, 97]) = true := by rw [h2]; exact beqT _
    clear hP h0 h1 h2
    generalize BA v = B at *
    have C := categories_t t [76] w h
    have hc : BA [76] = ⟨#[76]⟩ := rfl
    rw [hc] at C
    clear hc
    have HT : Hid (Tabs w t) := h
    clear h
    go_enter Tryz.func55, Tryz.ntmps55
    go_wp2_with fail
    refine C.mono ?_
    rintro e w1 ⟨v1, r1, rfl, o1, s1, b1⟩
    clear C
    have C := categories_t t [78, 108] w1 (HT.out.below b1)
    have hc : BA [78, 108] = ⟨#[78, 108]⟩ := rfl
    rw [hc] at C
    clear hc
    have z1 := o1.sl
    have HS1 : Hid (IsSet r1 (catP [76])) := s1
    clear s1 o1
    go_wp2_with fail
    refine C.mono ?_
    rintro e w2 ⟨v2, r2, rfl, o2, s2, b2⟩
    clear C
    have z2 := o2.sl
    have z3 := z1.below b2
    have HS2 : Hid (IsSet r2 (catP [78, 108])) := s2
    obtain ⟨a1, c1, rfl, k1, _⟩ := z3
    obtain ⟨a2, c2, rfl, k2, _⟩ := z2
    have C := rng.union_any a1 a2 c1 c2 r1 r2 w2 (rlen HS1.out) (rlen HS2.out) k1 k2
    have HB : Hid (Below w.heap.size w w2) := b1.trans (b2.mono b1.size)
    clear z1 s2 o2 k1 k2 b1 b2
    generalize r1.length = n1 at *
    generalize r2.length = n2 at *
    go_wp2_with fail
    refine C.mono ?_
    rintro e w3 ⟨v3, r3, rfl, o3, s3, b3⟩
    clear C
    have hfin := s3.congr (g := fun x => catP [76] x || catP [78, 108] x) (fun x hx => by rw [HS1.out.2 x hx, HS2.out.2 x hx])
    clear s3
    go_wp2
    try rw [Exit.noGoto_ret]
    go_ret
    exact ⟨_, r3, rfl, rng.own_mono o3 HB.out.size, hfin, HB.out.trans (b3.mono HB.out.size)⟩
  by_cases h3 : v = [76, 111, 119, 101, 114]
  · have hP : binP v = catP [76, 108] := by funext x; unfold binP; rw [if_neg h0, if_neg h1, if_neg h2, if_pos h3]
    rw [hP]
    have g0 := beqF h0
    have g1 := beqF h1
    have g2 := beqF h2
    have g3 : ((BA v).toList == [76, 111, 119, 101, 114]) = true := by rw [h3]; exact beqT _
    clear hP h0 h1 h2 h3
    generalize BA v = B at *
    have C := categories_t t [76, 108] w h
    have hc : BA [76, 108] = ⟨#[76, 108]⟩ := rfl
    rw [hc] at C
    clear h hc
    go_enter Tryz.func55, Tryz.ntmps55
    go_wp2_with fail
    refine C.mono ?_
    rintro e w1 ⟨v', r, rfl, ho, hs, hb⟩
    clear C
    go_wp2
    try rw [Exit.noGoto_ret]
    go_ret
    exact ⟨_, r, rfl, ho, hs, hb⟩
  by_cases h4 : v = [85, 112, 112, 101, 114]
  · have hP : binP v = catP [76, 117] := by funext x; unfold binP; rw [if_neg h0, if_neg h1, if_neg h2, if_neg h3, if_pos h4]
    rw [hP]
    have g0 := beqF h0
    have g1 := beqF h1
    have g2 := beqF h2
    have g3 := beqF h3
    have g4 : ((BA v).toList == [85, 112, 112, 101, 114]) = true := by rw [h4]; exact beqT _
    clear hP h0 h1 h2 h3 h4
    generalize BA v = B at *
    have C := categories_t t [76, 117] w h
    have hc : BA [76, 117] = ⟨#[76, 117]⟩ := rfl
    rw [hc] at C
    clear h hc
    go_enter Tryz.func55, Tryz.ntmps55
    go_wp2_with fail
    refine C.mono ?_
    rintro e w1 ⟨v', r, rfl, ho, hs, hb⟩
    clear C
    go_wp2
    try rw [Exit.noGoto_ret]
    go_ret
    exact ⟨_, r, rfl, ho, hs, hb⟩
  by_cases h5 : v = [115, 112, 97, 99, 101]
  · have hP : binP v = rng.has spaceR := by funext x; unfold binP; rw [if_neg h0, if_neg h1, if_neg h2, if_neg h3, if_neg h4, if_pos h5]
    rw [hP]
    have g0 := beqF h0
    have g1 := beqF h1
    have g2 := beqF h2
    have g3 := beqF h3
    have g4 := beqF h4
    have g5 : ((BA v).toList == [115, 112, 97, 99, 101]) = true := by rw [h5]; exact beqT _
    clear hP h0 h1 h2 h3 h4 h5
    generalize BA v = B at *
    clear h
    go_enter Tryz.func55, Tryz.ntmps55
    go_wp2
    try rw [Exit.noGoto_ret]
    go_ret
    exact ⟨_, spaceR, rfl, lit_own w _ _ rfl (by decide), space_set, (Below.refl _ w).alloc (Nat.le_refl _) _⟩
  have hP : binP v = fun _ => false := by funext x; unfold binP; rw [if_neg h0, if_neg h1, if_neg h2, if_neg h3, if_neg h4, if_neg h5]
  rw [hP]
  have g0 := beqF h0
  have g1 := beqF h1
  have g2 := beqF h2
  have g3 := beqF h3
  have g4 := beqF h4
  have g5 := beqF h5
  clear hP h h0 h1 h2 h3 h4 h5
  generalize BA v = B at *
  go_enter Tryz.func55, Tryz.ntmps55
  go_wp2
  go_ret
  exact ⟨_, [], rfl, World.ownsRow_nil _ _ _ _, no_set, Below.refl _ _⟩
def scrF : Int → List UInt8 := sF [90, 122, 122, 122] scrL
/-- The code points of what an expression names. -/
def setP (q : Int × List UInt8 × Int) (x : Int) : Bool := if q.2.2 ≠ 0 then false else if q.1 = 1 then catP q.2.1 x else if q.1 = 2 then decide (scrF x = q.2.1) else binP q.2.1 x
set_option maxHeartbeats 4000000 in
set_option maxRecDepth 1000000 in
theorem set_t (t : Nat) (s : ByteArray) (w : World) (h : Tabs w t) (hs : s.size ≤ 140737488355327) : Calls Tryz.prog 27 #[.pointer (some ⟨t, 0, none⟩), .string s] w fun e w' => ∃ v' r, e = .returned (.tuple #[v', .int .i64 (nam.resolveV s).2.2]) ∧ rng.Own w' w.heap.size v' r ∧ IsSet r (setP (nam.resolveV s)) ∧ Below w.heap.size w w' := by
  have C := made_t t w h
  have RE := nam.resolve_any s w hs
  have HT : Hid (Tabs w t) := h
  clear h
  generalize nam.resolveV s = q at *
  obtain ⟨K, V, ER⟩ := q
  simp only at *
  by_cases he : ER = 0
  · subst he
    by_cases h1 : K = 1
    · subst h1
      have hP : setP (1, V, 0) = catP V := by funext x; unfold setP; simp
      rw [hP]
      clear hP
      go_enter Tryz.func27, Tryz.ntmps27
      go_wp2_with fail
      refine C.mono ?_
      rintro e w1 ⟨rfl, hw⟩
      rw [hw]
      clear C hw w1
      go_wp2_with fail
      refine RE.mono ?_
      rintro e w1 ⟨rfl, b1⟩
      clear RE
      have D := categories_t t V w1 (HT.out.below b1)
      go_wp2_with fail
      refine D.mono ?_
      rintro e w2 ⟨v', r, rfl, ho, hs2, hb⟩
      clear D
      go_wp2
      try rw [Exit.noGoto_ret]
      go_ret2
      exact ⟨_, r, rfl, rng.own_mono ho b1.size, hs2, b1.trans (hb.mono b1.size)⟩
    · have k1 : (K == 1) = false := beq_eq_false_iff_ne.2 h1
      by_cases h2 : K = 2
      · subst h2
        have hP : setP (2, V, 0) = fun x => decide (scrF x = V) := by funext x; unfold setP; simp
        rw [hP]
        clear hP
        go_enter Tryz.func27, Tryz.ntmps27
        go_wp2_with fail
        refine C.mono ?_
        rintro e w1 ⟨rfl, hw⟩
        rw [hw]
        clear C hw w1
        go_wp2_with fail
        refine RE.mono ?_
        rintro e w1 ⟨rfl, b1⟩
        clear RE
        obtain ⟨tb, vb, vc, s2, c0, c1, ht⟩ := (HT.out.below b1).scr
        have D := ranges_tab tb vb _ s2 _ V w1 ht
        clear ht c1
        have HD : Hid (Calls Tryz.prog 54 #[.pointer (some ⟨tb, 0, none⟩), .string (BA V)] w1 fun e w' => ∃ v' r, e = .returned v' ∧ rng.Own w' w1.heap.size v' r ∧ IsSet r (fun x => decide (scrF x = V)) ∧ Below w1.heap.size w1 w') := D
        clear D
        go_wp2_with fail
        refine HD.out.mono ?_
        rintro e w2 ⟨v', r, rfl, ho, hs2, hb⟩
        clear HD
        go_wp2
        try rw [Exit.noGoto_ret]
        go_ret2
        exact ⟨_, r, rfl, rng.own_mono ho b1.size, hs2, b1.trans (hb.mono b1.size)⟩
      · have k2 : (K == 2) = false := beq_eq_false_iff_ne.2 h2
        have hP : setP (K, V, 0) = binP V := by funext x; unfold setP; simp [h1, h2]
        rw [hP]
        clear hP
        go_enter Tryz.func27, Tryz.ntmps27
        go_wp2_with fail
        refine C.mono ?_
        rintro e w1 ⟨rfl, hw⟩
        rw [hw]
        clear C hw w1
        go_wp2_with fail
        refine RE.mono ?_
        rintro e w1 ⟨rfl, b1⟩
        clear RE
        have D := binary_t t V w1 (HT.out.below b1)
        go_wp2_with fail
        refine D.mono ?_
        rintro e w2 ⟨v', r, rfl, ho, hs2, hb⟩
        clear D
        go_wp2
        try rw [Exit.noGoto_ret]
        go_ret2
        exact ⟨_, r, rfl, rng.own_mono ho b1.size, hs2, b1.trans (hb.mono b1.size)⟩
  · have k0 : (ER == 0) = false := beq_eq_false_iff_ne.2 he
    have hP : setP (K, V, ER) = fun _ => false := by funext x; unfold setP; simp [he]
    rw [hP]
    clear hP
    go_enter Tryz.func27, Tryz.ntmps27
    go_wp2_with fail
    refine C.mono ?_
    rintro e w1 ⟨rfl, hw⟩
    rw [hw]
    clear C hw w1
    go_wp2_with fail
    refine RE.mono ?_
    rintro e w1 ⟨rfl, b1⟩
    clear RE
    go_wp2
    go_ret2
    exact ⟨_, [], rfl, World.ownsRow_nil _ _ _ _, no_set, b1⟩
end Go.Proofs.YtnjomfmdogkhgaaGreatDoor.prp
end

section
/- PropsIn: a code point is in the set of its category, and of its script. -/
set_option linter.unusedVariables false
set_option linter.unusedSimpArgs false
namespace Go.Proofs.YtnjomfmdogkhgaaGreatDoor.prp
open Go.RowKit Go.Maps lin
open Go.Proofs.YtnjomfmdogkhgaaGreatDoor.rng (R IsSet Sl code)

theorem gc_names : ∀ c ∈ sV [67, 110] catL, nam.resolveV (BA ([103, 99, 61] ++ c)) = (1, c, 0) ∧ c.length = 2 := by decide +kernel
theorem sc_names : ∀ c ∈ sV [90, 122, 122, 122] scrL, nam.resolveV (BA ([115, 99, 61] ++ c)) = (2, c, 0) ∧ c.length ≤ 10 := by decide +kernel
theorem cat_mem (x : Int) (h : code x = true) : catF x ∈ sV [67, 110] catL := by
  have hc := (rng.code_iff x).1 h
  obtain ⟨i, _, h2⟩ := (tall_inv [67, 110] (catL.map str.trip) (fun x hx => by
    obtain ⟨y, hy, rfl⟩ := List.mem_map.1 hx
    have := str.tfit_spec (cat_tfit y hy)
    exact ⟨this.1, this.2.1, this.2.2.1⟩)).tell x hc.1 hc.2
  exact List.mem_of_getElem? h2
theorem scr_mem (x : Int) (h : code x = true) : scrF x ∈ sV [90, 122, 122, 122] scrL := by
  have hc := (rng.code_iff x).1 h
  obtain ⟨i, _, h2⟩ := (tall_inv [90, 122, 122, 122] (scrL.map str.trip) (fun x hx => by
    obtain ⟨y, hy, rfl⟩ := List.mem_map.1 hx
    have := str.tfit_spec (scr_tfit y hy)
    exact ⟨this.1, this.2.1, this.2.2.1⟩)).tell x hc.1 hc.2
  exact List.mem_of_getElem? h2
theorem rhas_own (v : Value) (l : List R) (x : Int) (B : Nat) (w : World) (h : rng.Own w B v l) (hn : l.length ≤ 1000000) :
    Calls Tryz.prog 30 #[v, .int .i64 x] w fun e w' => e = .returned (.bool (rng.has l x)) ∧ Below w.heap.size w w' := by
  obtain ⟨ao, cap, rfl, hv, _⟩ := rng.Own.view h
  exact rng.rhas_any ao cap l x w (by omega) hv
theorem gc_set (x : Int) (h : code x = true) (r : List R) (hr : IsSet r (setP (nam.resolveV (BA ([103, 99, 61] ++ catF x))))) : rng.has r x = true := by
  obtain ⟨h1, h2⟩ := gc_names _ (cat_mem x h)
  rw [hr.2 x h, h1]
  unfold setP catP
  simp [h2]
theorem sc_set (x : Int) (h : code x = true) (r : List R) (hr : IsSet r (setP (nam.resolveV (BA ([115, 99, 61] ++ scrF x))))) : rng.has r x = true := by
  obtain ⟨h1, h2⟩ := sc_names _ (scr_mem x h)
  rw [hr.2 x h, h1]
  unfold setP
  simp
theorem mod_code (x : Int) : ∃ y : Int, wrap64 ((IntKind.u64.wrap x).tmod 1114112) = y ∧ code y = true := by
  have hu : 0 ≤ IntKind.u64.wrap x := by simp [IntKind.wrap, IntKind.signed, IntKind.bits]; omega
  rw [Int.tmod_eq_emod_of_nonneg hu]
  refine ⟨IntKind.u64.wrap x % 1114112, ?_, by rw [rng.code_iff]; omega⟩
  have h1 : 0 ≤ IntKind.u64.wrap x % 1114112 := by omega
  have h2 : IntKind.u64.wrap x % 1114112 < 1114112 := by omega
  generalize IntKind.u64.wrap x % 1114112 = y at *
  unfold wrap64
  omega
theorem BA_append (a b : List UInt8) : (⟨a.toArray⟩ : ByteArray) ++ BA b = BA (a ++ b) := by
  apply ByteArray.ext
  simp [BA]
set_option maxHeartbeats 4000000 in
set_option maxRecDepth 1000000 in
theorem in_walk (r : Int) (w : World) (E : Env w) : Calls Tryz.prog 5 #[.int .i64 r] w fun e w' => e = .returned (.bool true) ∧ Below w.heap.size w w' := by
  have C := load_any w E
  obtain ⟨X, hX, hcode⟩ := mod_code r
  have HCD : Hid (code X = true) := hcode
  have l1 : (BA ([103, 99, 61] ++ catF X)).size ≤ 140737488355327 := by rw [BA_size, List.length_append, (gc_names _ (cat_mem X hcode)).2]; decide
  have l2 : (BA ([115, 99, 61] ++ scrF X)).size ≤ 140737488355327 := by rw [BA_size, List.length_append]; have := (sc_names _ (scr_mem X hcode)).2; simp; omega
  have e1 : (nam.resolveV (BA ([103, 99, 61] ++ catF X))).2.2 = 0 := by rw [(gc_names _ (cat_mem X hcode)).1]
  have e2 : (nam.resolveV (BA ([115, 99, 61] ++ scrF X))).2.2 = 0 := by rw [(sc_names _ (scr_mem X hcode)).1]
  have z1 : ¬ 9223372036854775807 < 3 + (BA (catF X)).size := by rw [BA_size, (gc_names _ (cat_mem X hcode)).2]; decide
  have z2 : ¬ 9223372036854775807 < 3 + (BA (scrF X)).size := by rw [BA_size]; have := (sc_names _ (scr_mem X hcode)).2; omega
  clear hcode E
  go_enter Tryz.func5, Tryz.ntmps5
  go_wp2_with fail
  refine C.mono ?_
  rintro e w1 ⟨t, rfl, ht, b1⟩
  clear C
  rw [hX]
  have HT : Hid (Tabs w1 t) := ht
  have C := category_t t X w1 ht
  rw [show sF [67, 110] catL = catF from rfl] at C
  clear ht hX
  go_wp2_with fail
  refine C.mono ?_
  rintro e w2 ⟨rfl, b2⟩
  clear C
  have p1 : (⟨#[103, 99, 61]⟩ : ByteArray) ++ BA (catF X) = BA ([103, 99, 61] ++ catF X) := BA_append [103, 99, 61] _
  have C := set_t t (BA ([103, 99, 61] ++ catF X)) w2 (HT.out.below b2) l1
  rw [e1] at C
  have HG1 : Hid (∀ r, IsSet r (setP (nam.resolveV (BA ([103, 99, 61] ++ catF X)))) → rng.has r X = true) := fun r hr => gc_set X HCD.out r hr
  generalize nam.resolveV (BA ([103, 99, 61] ++ catF X)) = q1 at *
  generalize BA ([103, 99, 61] ++ catF X) = S1 at *
  generalize BA (catF X) = S0 at *
  clear l1
  go_wp2_with fail
  refine C.mono ?_
  rintro e w3 ⟨v3, r3, rfl, o3, s3, b3⟩
  clear C
  have hh3 := HG1.out r3 s3
  have hl3 := rlen s3
  have HO3 : Hid (rng.Own w3 w2.heap.size v3 r3) := o3
  have HT3 : Hid (Tabs w3 t) := (HT.out.below b2).below b3
  clear s3 o3 HG1 HT p1 z1
  have C := script_t t X w3 HT3.out
  rw [show sF [90, 122, 122, 122] scrL = scrF from rfl] at C
  go_wp2_with fail
  refine C.mono ?_
  rintro e w4 ⟨rfl, b4⟩
  clear C
  have p2 : (⟨#[115, 99, 61]⟩ : ByteArray) ++ BA (scrF X) = BA ([115, 99, 61] ++ scrF X) := BA_append [115, 99, 61] _
  have C := set_t t (BA ([115, 99, 61] ++ scrF X)) w4 (HT3.out.below b4) l2
  rw [e2] at C
  have HG2 : Hid (∀ r, IsSet r (setP (nam.resolveV (BA ([115, 99, 61] ++ scrF X)))) → rng.has r X = true) := fun r hr => sc_set X HCD.out r hr
  generalize nam.resolveV (BA ([115, 99, 61] ++ scrF X)) = q2 at *
  generalize BA ([115, 99, 61] ++ scrF X) = S3 at *
  generalize BA (scrF X) = S2 at *
  clear l2
  go_wp2_with fail
  refine C.mono ?_
  rintro e w5 ⟨v5, r5, rfl, o5, s5, b5⟩
  clear C
  have hh5 := HG2.out r5 s5
  have hl5 := rlen s5
  have HO5 : Hid (rng.Own w5 w4.heap.size v5 r5) := o5
  have C := rhas_own v3 r3 X _ w5 (own_below (own_below HO3.out b4) b5) hl3
  rw [hh3] at C
  clear s5 o5 HG2 HT3 p2 z2 HO3
  go_wp2_with fail
  refine C.mono ?_
  rintro e w6 ⟨rfl, b6⟩
  clear C
  have C := rhas_own v5 r5 X _ w6 (own_below HO5.out b6) hl5
  rw [hh5] at C
  clear HO5
  have HB : Hid (Below w.heap.size w w6) := b1.trans ((b2.trans ((b3.trans ((b4.trans ((b5.trans (b6.mono b5.size)).mono b4.size)).mono b3.size)).mono b2.size)).mono b1.size)
  clear b1 b2 b3 b4 b5 b6
  go_wp2_with fail
  refine C.mono ?_
  rintro e w7 ⟨rfl, b7⟩
  clear C
  go_wp2
  go_ret
  exact ⟨rfl, HB.out.trans (b7.mono HB.out.size)⟩
end Go.Proofs.YtnjomfmdogkhgaaGreatDoor.prp
end
