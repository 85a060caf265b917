/- Texts that the proof leans on, one behind the other. -/
import Derived.Test.YtnjomfmdogkhgaaGreatDoorBnd24
import Derived.Test.YtnjomfmdogkhgaaGreatDoorBnd27
import Derived.Test.YtnjomfmdogkhgaaGreatDoorBnd32
import Derived.Test.YtnjomfmdogkhgaaGreatDoorBnd31
import Derived.Laws.AppendOwnNone
import Derived.Test.YtnjomfmdogkhgaaGreatDoorBnd17
import Derived.Test.YtnjomfmdogkhgaaGreatDoorBnd25

section
/- The set of a category. -/
set_option linter.unusedVariables false
set_option linter.unusedSimpArgs false
namespace Go.Proofs.YtnjomfmdogkhgaaGreatDoor.prp
open Go.RowKit Go.Maps lin
open Go.Proofs.YtnjomfmdogkhgaaGreatDoor.rng (R has IsSet Sl code)

theorem ranges_tab (tb vb : Nat) (vals : List (List UInt8)) (s : List tri.E) (F : Int → List UInt8) (v : List UInt8) (w : World) (h : str.TabIs w tb vb vals s F) :
    Calls Tryz.prog 54 #[.pointer (some ⟨tb, 0, none⟩), .string (BA v)] w fun e w' => ∃ v' r, e = .returned v' ∧ rng.Own w' w.heap.size v' r ∧ IsSet r (fun x => decide (F x = v)) ∧ Below w.heap.size w w' := by
  refine (tri.str.ranges_any _ _ tb s (BA v) w h.tr h.ris).mono ?_
  rintro e w' ⟨v', r, rfl, ho, hs, hb⟩
  refine ⟨v', r, rfl, ho, hs.congr (fun x hx => ?_), hb⟩
  have hc := (rng.code_iff x).1 hx
  obtain ⟨i, h1, h2⟩ := h.tell x hc.1 hc.2
  simp only [h1, Int.toNat_natCast]
  rw [List.getD_eq_getElem?_getD, h2, Option.getD_some]
  have hd : (BA (F x) == BA v) = ((BA (F x)).data == (BA v).data) := rfl
  rw [hd]
  by_cases e : F x = v
  · rw [decide_eq_true e, e, beq_self_eq_true]
  · rw [decide_eq_false e, beq_eq_false_iff_ne]
    intro e2
    have := congrArg Array.toList e2
    rw [BA_data, BA_data] at this
    exact e this

def catF : Int → List UInt8 := sF [67, 110] catL
/-- The code points of a category, or of all that begin so. -/
def catP (v : List UInt8) (x : Int) : Bool := if 1 < v.length then decide (catF x = v) else Lib.hasPrefix (catF x) v
theorem cat_few : catL.length ≤ 200 := by decide +kernel
theorem cat_vals : (sV [67, 110] catL).length ≤ 201 := by
  have := (tall_inv [67, 110] (catL.map str.trip) (fun x hx => by
    obtain ⟨y, hy, rfl⟩ := List.mem_map.1 hx
    have := str.tfit_spec (cat_tfit y hy)
    exact ⟨this.1, this.2.1, this.2.2.1⟩)).len
  rw [List.length_map] at this
  have := cat_few
  unfold sV
  omega
theorem cat_rlen (c : List UInt8) (r : List R) (h : IsSet r (fun x => decide (catF x = c))) : r.length ≤ 401 := by
  have := lastV_set_len [67, 110] c (catL.map str.trip) r h
  rw [List.length_map] at this
  have := cat_few
  omega

set_option maxHeartbeats 4000000 in
set_option maxRecDepth 1000000 in
theorem categories_t (t : Nat) (v : List UInt8) (w : World) (h : Tabs w t) : Calls Tryz.prog 53 #[.pointer (some ⟨t, 0, none⟩), .string (BA v)] w fun e w' => ∃ v' r, e = .returned v' ∧ rng.Own w' w.heap.size v' r ∧ IsSet r (catP v) ∧ Below w.heap.size w w' := by
  obtain ⟨tb, vb, vc, s, c0, c1, ht⟩ := h.cat
  have hbs : (BA v).size = v.length := BA_size v
  by_cases h1 : 1 < v.length
  · have D := ranges_tab tb vb _ s _ v w ht
    have HP : Hid (∀ r, IsSet r (fun x => decide (sF [67, 110] catL x = v)) → IsSet r (catP v)) := fun r hr => hr.congr (fun x _ => by unfold catP; rw [if_pos h1]; rfl)
    have h1' : (1 : Int) < ((BA v).size : Int) := by omega
    clear h ht c1 hbs h1
    generalize BA v = B at *
    go_enter Tryz.func53, Tryz.ntmps53
    go_wp2_with fail
    refine D.mono ?_
    rintro e w1 ⟨v', r, rfl, ho, hs, hb⟩
    clear D
    have hs2 := HP.out r hs
    clear hs
    go_wp2
    go_ret
    exact ⟨_, r, rfl, ho, hs2, hb⟩
  · obtain ⟨i0, hi, hz0, hz1, hz2⟩ := rng.info_parts rng.infoRange
    have HT : Hid (str.TabIs w tb vb (sV [67, 110] catL) s (sF [67, 110] catL)) := ht
    have hvl := cat_vals
    have HGET : Hid (∀ (i : Nat) c, (sV [67, 110] catL)[i]? = some c → w.cell? ⟨vb, i, none⟩ = some (.string (BA c))) := ht.vs
    have HNX : Hid (∀ (i : Nat) c, (sV [67, 110] catL)[i]? = some c → (sV [67, 110] catL).take (i + 1) = (sV [67, 110] catL).take i ++ [c]) := fun i c hi => by rw [List.take_add_one, hi]; rfl
    have HLK : Hid (∀ i, i < (sV [67, 110] catL).length → ∃ c, (sV [67, 110] catL)[i]? = some c) := fun i hi => ⟨_, List.getElem?_eq_getElem hi⟩
    have HEND : Hid (∀ r, (∀ x, code x = true → has r x = (sV [67, 110] catL).any (fun c => Lib.hasPrefix c v && decide (catF x = c))) → ∀ r2, IsSet r2 (has r) → IsSet r2 (catP v)) := fun r hr r2 h2 => h2.congr (fun x hx => by
      rw [hr x hx]
      unfold catP
      rw [if_neg h1]
      have hc := (rng.code_iff x).1 hx
      obtain ⟨i, _, hm⟩ := ht.tell x hc.1 hc.2
      have hm' := List.mem_of_getElem? hm
      cases hp : Lib.hasPrefix (catF x) v with
      | true => rw [List.any_eq_true]; exact ⟨catF x, hm', by rw [hp, decide_eq_true rfl]; rfl⟩
      | false =>
        rw [List.any_eq_false]
        intro c _ hcc
        simp only [Bool.and_eq_true, decide_eq_true_eq] at hcc
        rw [hcc.2, hcc.1] at hp
        cases hp)
    have h1' : ¬ (1 : Int) < ((BA v).size : Int) := by omega
    have HPC : Hid (∀ c W, Calls Tryz.prog 78 #[.string (BA c), .string (BA v)] W fun e w' => e = .returned (.bool (Lib.hasPrefix c v)) ∧ w' = W) := fun c W => by
      have := Tryz.strings_HasPrefix (BA c) (BA v) W
      rw [BA_data, BA_data] at this
      exact this
    clear h ht hbs
    generalize sV [67, 110] catL = vals at *
    generalize hvn : vals.length = vn at *
    generalize hB : BA v = B at *
    clear hB
    go_enter Tryz.func53, Tryz.ntmps53
    go_wp2
    go_loopw [24, 5] (fun i u5 wr => ∃ (k : Nat) (out : List R), k ≤ vn ∧ i = .int .i64 k ∧ out.length ≤ 401 * k ∧ Hid (∀ x, code x = true → has out x = (vals.take k).any (fun c => Lib.hasPrefix c v && decide (catF x = c))) ∧ Hid (rng.Own wr w.heap.size u5 out) ∧ Below w.heap.size w wr) (fun i _ _ => vn - (RowKit.intOf i).toNat)
    case atStart => exact ⟨0, [], Nat.zero_le _, rfl, Nat.zero_le _, fun x hx => by simp [rng.has], World.ownsRow_nil _ _ _ _, Below.refl _ _⟩
    case round =>
      obtain ⟨k, out, hk, rfl, hol, HO, hown, hbel⟩ := hrel
      have hbs := hbel.size
      by_cases hlt : k < vn
      · have hlt' : (k : Int) < (vn : Int) := by omega
        obtain ⟨c, hc⟩ := HLK.out k (by omega)
        have q0 := cell_below hbel (HGET.out k c hc)
        have q1 := cell_below hbel c0
        have HTK := HNX.out k c hc
        have C := HPC.out c wr
        have HR := ranges_tab tb vb _ s _ c wr (HT.out.below hbel)
        have HHR : Hid (Calls Tryz.prog 54 #[.pointer (some ⟨tb, 0, none⟩), .string (BA c)] wr fun e w' => ∃ v' r, e = .returned v' ∧ rng.Own w' wr.heap.size v' r ∧ IsSet r (fun x => decide (catF x = c)) ∧ Below wr.heap.size wr w') := HR
        have HEX : Hid (∀ x, code x = true → (vals.take (k + 1)).any (fun c => Lib.hasPrefix c v && decide (catF x = c)) = (has out x || (Lib.hasPrefix c v && decide (catF x = c)))) := fun x hx => by rw [HTK, List.any_append, HO.out x hx]; simp
        clear HR HTK hc
        go_wp2_with fail
        refine C.mono ?_
        rintro e w1 ⟨rfl, hw⟩
        rw [hw]
        clear C hw
        cases hp : Lib.hasPrefix c v with
        | false =>
          have HN : Hid (∀ x, code x = true → has out x = (vals.take (k + 1)).any (fun c => Lib.hasPrefix c v && decide (catF x = c))) := fun x hx => by rw [HEX.out x hx, hp]; simp
          clear hp HEX HHR HO
          go_wp2
          go_roundw
          case rel => exact ⟨k + 1, out, by omega, by go_num, by omega, HN, hown, hbel⟩
          case measure => simp [RowKit.intOf]; omega
        | true =>
          have C := HHR.out
          have HN : Hid (∀ r, IsSet r (fun x => decide (catF x = c)) → ∀ x, code x = true → has (out ++ r) x = (vals.take (k + 1)).any (fun c => Lib.hasPrefix c v && decide (catF x = c))) := fun r hr x hx => by rw [HEX.out x hx, hp, rng.has_append, hr.2 x hx]; simp
          clear hp HEX HHR HO
          go_wp2_with fail
          refine C.mono ?_
          rintro e w2 ⟨v', r, rfl, ho, hs, hb⟩
          clear C
          have hrl := cat_rlen c r hs
          have HN2 := HN.out r hs
          have HN3 : Hid (∀ x, code x = true → has (out ++ r) x = (vals.take (k + 1)).any (fun c => Lib.hasPrefix c v && decide (catF x = c))) := HN2
          have hown2 : Hid (rng.Own w2 w.heap.size u5 out) := own_below hown.out hb
          have hb2 := hbel.trans (hb.mono hbs)
          have hb2s := hb2.size
          have hlen : (out ++ r).length ≤ 401 * (k + 1) := by rw [List.length_append]; omega
          have HW : Hid (∀ k, u5.ownBlock = some k → w.heap.size ≤ k) := fun k e => (hown2.out.lt k e).1
          clear HN HN2 hs hown
          rcases ho.2 with ⟨hnil, hr0⟩ | ⟨g, cap, cur, hsl, hg⟩
          · subst hnil
            obtain rfl : r = [] := List.eq_nil_of_length_eq_zero hr0
            rw [List.append_nil] at HN3 hlen
            go_wp2_with (at_builtin; refine wpList_append_own_none rfl _ _ 34 rfl w.heap.size 40 i0 2 Tryz.underlying34 hi _ _ _ rfl hown2.out rfl ?_)
            go_wp2
            go_roundw
            case rel => exact ⟨k + 1, out, by omega, by go_num, hlen, HN3, hown2, hb2⟩
            case measure => simp [RowKit.intOf]; omega
          · clear hg
            subst hsl
            have hnews : ∀ (j : Nat) u, (rng.flat r)[j]? = some u → w2.cell? ((⟨g, 0, none⟩ : Addr).add j) = some u := fun j u hj => by
              rw [Addr.add_lit, Nat.zero_add, ho.cellAt j (by rw [← rng.flat_length]; exact (List.getElem?_eq_some_iff.1 hj).1)]
              exact hj
            have HNW : Hid (∀ (j : Nat) u, (rng.flat r)[j]? = some u → w2.cell? ((⟨g, 0, none⟩ : Addr).add j) = some u) := hnews
            have HFL : Hid ((rng.flat r).length = r.length * 2) := rng.flat_length r
            clear hnews ho
            generalize hrn : r.length = rn at *
            go_wp2_with (at_builtin; refine wpList_append_own _ rfl _ _ 34 rfl w.heap.size 40 i0 (.agg #[.int .i64 0, .int .i64 0]) 2 16 Tryz.underlying34 hi hz0 hz1 hz2 rfl (by decide) _ _ _ rfl hown2.out ⟨g, 0, none⟩ rn cap (rng.flat r) rfl HFL.out HNW.out (rng.flat_one r) ?c3 ?c4 ?c5 ?_)
            case c3 => unfold maxLen; omega
            case c4 => omega
            case c5 => omega
            · intro v4 w4 hown4 hgrow _
              have R2 := Below.grown hb2 hgrow hb2s HW.out
              have R1 : Hid (rng.Own w4 w.heap.size v4 (out ++ r)) := by
                unfold Hid rng.Own; rw [rng.flat_append, List.length_append, hrn]; exact hown4
              clear hown4 hgrow
              go_wp2
              go_roundw
              case rel => exact ⟨k + 1, out ++ r, by omega, by go_num, hlen, HN3, R1, R2⟩
              case measure => simp [RowKit.intOf]; omega
      · have hge : ¬ (k : Int) < (vn : Int) := by omega
        have HO2 : Hid (∀ x, code x = true → has out x = vals.any (fun c => Lib.hasPrefix c v && decide (catF x = c))) := fun x hx => by
          have := HO.out x hx
          rw [List.take_of_length_le (by omega)] at this
          exact this
        obtain ⟨ao, cap, rfl, hrv, _, _⟩ := rng.Own.view hown.out
        have C := rng.make_any ao cap out wr (by omega) hrv
        have HB : Hid (Below w.heap.size w wr) := hbel
        clear HO hown hrv
        generalize out.length = ol at *
        go_wp2_with fail
        refine C.mono ?_
        rintro e w2 ⟨v2, r2, rfl, o2, i2, b2⟩
        clear C
        have hfin := HEND.out out HO2.out r2 i2
        have O2 : Hid (rng.Own w2 wr.heap.size v2 r2) := o2
        clear i2 o2
        go_wp2
        go_ret
        exact ⟨_, r2, rfl, rng.own_mono O2.out hbs, hfin, HB.out.trans (b2.mono hbs)⟩
end Go.Proofs.YtnjomfmdogkhgaaGreatDoor.prp
end

section
/- The set of a property that is so or not; the set of an expression. -/
set_option linter.unusedVariables false
set_option linter.unusedSimpArgs false
namespace Go.Proofs.YtnjomfmdogkhgaaGreatDoor.prp
open Go.RowKit Go.Maps lin
open Go.Proofs.YtnjomfmdogkhgaaGreatDoor.rng (R IsSet Sl code)

theorem beqT (c : List UInt8) : ((BA c).toList == c) = true := by rw [Lib.toList_data, BA_data]; exact beq_self_eq_true _
theorem beqF {v c : List UInt8} (h : v ≠ c) : ((BA v).toList == c) = false := by rw [Lib.toList_data, BA_data, beq_eq_false_iff_ne]; exact h
def spaceR : List R := [(9, 13), (32, 32), (133, 133), (160, 160), (8232, 8233)]
/-- The code points of a property that is so or not. -/
def binP (v : List UInt8) (x : Int) : Bool :=
  if v = [65, 110, 121] then true else if v = [65, 83, 67, 73, 73] then decide (x ≤ 127) else if v = [65, 108, 112, 104, 97] then catP [76] x || catP [78, 108] x
  else if v = [76, 111, 119, 101, 114] then catP [76, 108] x else if v = [85, 112, 112, 101, 114] then catP [76, 117] x else if v = [115, 112, 97, 99, 101] then rng.has spaceR x else false
theorem any_set : IsSet [((0 : Int), (1114111 : Int))] (fun _ => true) := ⟨by simp [rng.CanF], fun x hx => by rw [rng.has_iff]; have := (rng.code_iff x).1 hx; exact ⟨hx, _, List.mem_singleton.2 rfl, this⟩⟩
theorem ascii_set : IsSet [((0 : Int), (127 : Int))] (fun x => decide (x ≤ 127)) := ⟨by simp [rng.CanF], fun x hx => by
  have := (rng.code_iff x).1 hx
  rw [Bool.eq_iff_iff, rng.has_iff, decide_eq_true_eq]
  constructor
  · rintro ⟨_, p, hp, h⟩; rw [List.mem_singleton.1 hp] at h; exact h.2
  · intro h; exact ⟨hx, _, List.mem_singleton.2 rfl, this.1, h⟩⟩
theorem space_set : IsSet spaceR (rng.has spaceR) := IsSet.self ((rng.canB_iff 0 spaceR).1 (by decide))
theorem no_set : IsSet [] (fun _ => false) := ⟨trivial, fun x hx => rng.has_nil x⟩
theorem lit_own (w : World) (l : List R) (cs : Array Value) (h : cs.toList = rng.flat l) (hn : l.length ≤ 1000) : rng.Own (w.alloc (.cells cs 40)) w.heap.size (.slice (some ⟨w.heap.size, 0, none⟩) l.length l.length) l := by
  have := World.ownsRow_lit (base := w.heap.size) (e := 40) (size := 2) w cs l.length (Nat.le_refl _) (by unfold maxLen; omega) (by rw [← Array.length_toList, h, rng.flat_length])
  rw [h] at this
  exact this
theorem can_len : ∀ (r : List R) (m : Int), 0 ≤ m → rng.CanF m r → (r.length : Int) * 2 ≤ max 0 (1114113 - m) := by
  intro r
  induction r with
  | nil => intro m _ _; simp; omega
  | cons q r ih =>
    intro m hm h
    obtain ⟨h1, h2, h3, h4⟩ := h
    have := ih _ (by omega) h4
    simp only [List.length_cons]
    omega
theorem rlen {r : List R} {f : Int → Bool} (h : IsSet r f) : r.length ≤ 1000000 := by
  have := can_len r 0 (Int.le_refl _) h.1
  omega
set_option maxHeartbeats 2000000 in
set_option maxRecDepth 1000000 in
theorem binary_t (t : Nat) (v : List UInt8) (w : World) (h : Tabs w t) : Calls Tryz.prog 55 #[.pointer (some ⟨t, 0, none⟩), .string (BA v)] w fun e w' => ∃ v' r, e = .returned v' ∧ rng.Own w' w.heap.size v' r ∧ IsSet r (binP v) ∧ Below w.heap.size w w' := by
  by_cases h0 : v = [65, 110, 121]
  · have hP : binP v = fun _ => true := by funext x; unfold binP; rw [if_pos h0]
    rw [hP]
    have g0 : ((BA v).toList == [65, 110, 121]) = true := by rw [h0]; exact beqT _
    clear hP h0
    generalize BA v = B at *
    clear h
    go_enter Tryz.func55, Tryz.ntmps55
    go_wp2
    try rw [Exit.noGoto_ret]
    go_ret
    exact ⟨_, [(0, 1114111)], rfl, lit_own w _ _ rfl (by decide), any_set, (Below.refl _ w).alloc (Nat.le_refl _) _⟩
  by_cases h1 : v = [65, 83, 67, 73, 73]
  · have hP : binP v = fun x => decide (x ≤ 127) := by funext x; unfold binP; rw [if_neg h0, if_pos h1]
    rw [hP]
    have g0 := beqF h0
    have g1 : ((BA v).toList == [65, 83, 67, 73, 73]) = true := by rw [h1]; exact beqT _
    clear hP h0 h1
    generalize BA v = B at *
    clear h
    go_enter Tryz.func55, Tryz.ntmps55
    go_wp2
    try rw [Exit.noGoto_ret]
    go_ret
    exact ⟨_, [(0, 127)], rfl, lit_own w _ _ rfl (by decide), ascii_set, (Below.refl _ w).alloc (Nat.le_refl _) _⟩
  by_cases h2 : v = [65, 108, 112, 104, 97]
  · have hP : binP v = fun x => catP [76] x || catP [78, 108] x := by funext x; unfold binP; rw [if_neg h0, if_neg h1, if_pos h2]
    rw [hP]
    have g0 := beqF h0
    have g1 := beqF h1
    have g2 : ((BA v).toList == [65, 108, 112, 104, 97]) = true := by rw [h2]; exact beqT _
    clear hP h0 h1 h2
    generalize BA v = B at *
    have C := categories_t t [76] w h
    have hc : BA [76] = ⟨#[76]⟩ := rfl
    rw [hc] at C
    clear hc
    have HT : Hid (Tabs w t) := h
    clear h
    go_enter Tryz.func55, Tryz.ntmps55
    go_wp2_with fail
    refine C.mono ?_
    rintro e w1 ⟨v1, r1, rfl, o1, s1, b1⟩
    clear C
    have C := categories_t t [78, 108] w1 (HT.out.below b1)
    have hc : BA [78, 108] = ⟨#[78, 108]⟩ := rfl
    rw [hc] at C
    clear hc
    have z1 := o1.sl
    have HS1 : Hid (IsSet r1 (catP [76])) := s1
    clear s1 o1
    go_wp2_with fail
    refine C.mono ?_
    rintro e w2 ⟨v2, r2, rfl, o2, s2, b2⟩
    clear C
    have z2 := o2.sl
    have z3 := z1.below b2
    have HS2 : Hid (IsSet r2 (catP [78, 108])) := s2
    obtain ⟨a1, c1, rfl, k1, _⟩ := z3
    obtain ⟨a2, c2, rfl, k2, _⟩ := z2
    have C := rng.union_any a1 a2 c1 c2 r1 r2 w2 (rlen HS1.out) (rlen HS2.out) k1 k2
    have HB : Hid (Below w.heap.size w w2) := b1.trans (b2.mono b1.size)
    clear z1 s2 o2 k1 k2 b1 b2
    generalize r1.length = n1 at *
    generalize r2.length = n2 at *
    go_wp2_with fail
    refine C.mono ?_
    rintro e w3 ⟨v3, r3, rfl, o3, s3, b3⟩
    clear C
    have hfin := s3.congr (g := fun x => catP [76] x || catP [78, 108] x) (fun x hx => by rw [HS1.out.2 x hx, HS2.out.2 x hx])
    clear s3
    go_wp2
    try rw [Exit.noGoto_ret]
    go_ret
    exact ⟨_, r3, rfl, rng.own_mono o3 HB.out.size, hfin, HB.out.trans (b3.mono HB.out.size)⟩
  by_cases h3 : v = [76, 111, 119, 101, 114]
  · have hP : binP v = catP [76, 108] := by funext x; unfold binP; rw [if_neg h0, if_neg h1, if_neg h2, if_pos h3]
    rw [hP]
    have g0 := beqF h0
    have g1 := beqF h1
    have g2 := beqF h2
    have g3 : ((BA v).toList == [76, 111, 119, 101, 114]) = true := by rw [h3]; exact beqT _
    clear hP h0 h1 h2 h3
    generalize BA v = B at *
    have C := categories_t t [76, 108] w h
    have hc : BA [76, 108] = ⟨#[76, 108]⟩ := rfl
    rw [hc] at C
    clear h hc
    go_enter Tryz.func55, Tryz.ntmps55
    go_wp2_with fail
    refine C.mono ?_
    rintro e w1 ⟨v', r, rfl, ho, hs, hb⟩
    clear C
    go_wp2
    try rw [Exit.noGoto_ret]
    go_ret
    exact ⟨_, r, rfl, ho, hs, hb⟩
  by_cases h4 : v = [85, 112, 112, 101, 114]
  · have hP : binP v = catP [76, 117] := by funext x; unfold binP; rw [if_neg h0, if_neg h1, if_neg h2, if_neg h3, if_pos h4]
    rw [hP]
    have g0 := beqF h0
    have g1 := beqF h1
    have g2 := beqF h2
    have g3 := beqF h3
    have g4 : ((BA v).toList == [85, 112, 112, 101, 114]) = true := by rw [h4]; exact beqT _
    clear hP h0 h1 h2 h3 h4
    generalize BA v = B at *
    have C := categories_t t [76, 117] w h
    have hc : BA [76, 117] = ⟨#[76, 117]⟩ := rfl
    rw [hc] at C
    clear h hc
    go_enter Tryz.func55, Tryz.ntmps55
    go_wp2_with fail
    refine C.mono ?_
    rintro e w1 ⟨v', r, rfl, ho, hs, hb⟩
    clear C
    go_wp2
    try rw [Exit.noGoto_ret]
    go_ret
    exact ⟨_, r, rfl, ho, hs, hb⟩
  by_cases h5 : v = [115, 112, 97, 99, 101]
  · have hP : binP v = rng.has spaceR := by funext x; unfold binP; rw [if_neg h0, if_neg h1, if_neg h2, if_neg h3, if_neg h4, if_pos h5]
    rw [hP]
    have g0 := beqF h0
    have g1 := beqF h1
    have g2 := beqF h2
    have g3 := beqF h3
    have g4 := beqF h4
    have g5 : ((BA v).toList == [115, 112, 97, 99, 101]) = true := by rw [h5]; exact beqT _
    clear hP h0 h1 h2 h3 h4 h5
    generalize BA v = B at *
    clear h
    go_enter Tryz.func55, Tryz.ntmps55
    go_wp2
    try rw [Exit.noGoto_ret]
    go_ret
    exact ⟨_, spaceR, rfl, lit_own w _ _ rfl (by decide), space_set, (Below.refl _ w).alloc (Nat.le_refl _) _⟩
  have hP : binP v = fun _ => false := by funext x; unfold binP; rw [if_neg h0, if_neg h1, if_neg h2, if_neg h3, if_neg h4, if_neg h5]
  rw [hP]
  have g0 := beqF h0
  have g1 := beqF h1
  have g2 := beqF h2
  have g3 := beqF h3
  have g4 := beqF h4
  have g5 := beqF h5
  clear hP h h0 h1 h2 h3 h4 h5
  generalize BA v = B at *
  go_enter Tryz.func55, Tryz.ntmps55
  go_wp2
  go_ret
  exact ⟨_, [], rfl, World.ownsRow_nil _ _ _ _, no_set, Below.refl _ _⟩
def scrF : Int → List UInt8 := sF [90, 122, 122, 122] scrL
/-- The code points of what an expression names. -/
def setP (q : Int × List UInt8 × Int) (x : Int) : Bool := if q.2.2 ≠ 0 then false else if q.1 = 1 then catP q.2.1 x else if q.1 = 2 then decide (scrF x = q.2.1) else binP q.2.1 x
set_option maxHeartbeats 4000000 in
set_option maxRecDepth 1000000 in
theorem set_t (t : Nat) (s : ByteArray) (w : World) (h : Tabs w t) (hs : s.size ≤ 140737488355327) : Calls Tryz.prog 27 #[.pointer (some ⟨t, 0, none⟩), .string s] w fun e w' => ∃ v' r, e = .returned (.tuple #[v', .int .i64 (nam.resolveV s).2.2]) ∧ rng.Own w' w.heap.size v' r ∧ IsSet r (setP (nam.resolveV s)) ∧ Below w.heap.size w w' := by
  have C := made_t t w h
  have RE := nam.resolve_any s w hs
  have HT : Hid (Tabs w t) := h
  clear h
  generalize nam.resolveV s = q at *
  obtain ⟨K, V, ER⟩ := q
  simp only at *
  by_cases he : ER = 0
  · subst he
    by_cases h1 : K = 1
    · subst h1
      have hP : setP (1, V, 0) = catP V := by funext x; unfold setP; simp
      rw [hP]
      clear hP
      go_enter Tryz.func27, Tryz.ntmps27
      go_wp2_with fail
      refine C.mono ?_
      rintro e w1 ⟨rfl, hw⟩
      rw [hw]
      clear C hw w1
      go_wp2_with fail
      refine RE.mono ?_
      rintro e w1 ⟨rfl, b1⟩
      clear RE
      have D := categories_t t V w1 (HT.out.below b1)
      go_wp2_with fail
      refine D.mono ?_
      rintro e w2 ⟨v', r, rfl, ho, hs2, hb⟩
      clear D
      go_wp2
      try rw [Exit.noGoto_ret]
      go_ret2
      exact ⟨_, r, rfl, rng.own_mono ho b1.size, hs2, b1.trans (hb.mono b1.size)⟩
    · have k1 : (K == 1) = false := beq_eq_false_iff_ne.2 h1
      by_cases h2 : K = 2
      · subst h2
        have hP : setP (2, V, 0) = fun x => decide (scrF x = V) := by funext x; unfold setP; simp
        rw [hP]
        clear hP
        go_enter Tryz.func27, Tryz.ntmps27
        go_wp2_with fail
        refine C.mono ?_
        rintro e w1 ⟨rfl, hw⟩
        rw [hw]
        clear C hw w1
        go_wp2_with fail
        refine RE.mono ?_
        rintro e w1 ⟨rfl, b1⟩
        clear RE
        obtain ⟨tb, vb, vc, s2, c0, c1, ht⟩ := (HT.out.below b1).scr
        have D := ranges_tab tb vb _ s2 _ V w1 ht
        clear ht c1
        have HD : Hid (Calls Tryz.prog 54 #[.pointer (some ⟨tb, 0, none⟩), .string (BA V)] w1 fun e w' => ∃ v' r, e = .returned v' ∧ rng.Own w' w1.heap.size v' r ∧ IsSet r (fun x => decide (scrF x = V)) ∧ Below w1.heap.size w1 w') := D
        clear D
        go_wp2_with fail
        refine HD.out.mono ?_
        rintro e w2 ⟨v', r, rfl, ho, hs2, hb⟩
        clear HD
        go_wp2
        try rw [Exit.noGoto_ret]
        go_ret2
        exact ⟨_, r, rfl, rng.own_mono ho b1.size, hs2, b1.trans (hb.mono b1.size)⟩
      · have k2 : (K == 2) = false := beq_eq_false_iff_ne.2 h2
        have hP : setP (K, V, 0) = binP V := by funext x; unfold setP; simp [h1, h2]
        rw [hP]
        clear hP
        go_enter Tryz.func27, Tryz.ntmps27
        go_wp2_with fail
        refine C.mono ?_
        rintro e w1 ⟨rfl, hw⟩
        rw [hw]
        clear C hw w1
        go_wp2_with fail
        refine RE.mono ?_
        rintro e w1 ⟨rfl, b1⟩
        clear RE
        have D := binary_t t V w1 (HT.out.below b1)
        go_wp2_with fail
        refine D.mono ?_
        rintro e w2 ⟨v', r, rfl, ho, hs2, hb⟩
        clear D
        go_wp2
        try rw [Exit.noGoto_ret]
        go_ret2
        exact ⟨_, r, rfl, rng.own_mono ho b1.size, hs2, b1.trans (hb.mono b1.size)⟩
  · have k0 : (ER == 0) = false := beq_eq_false_iff_ne.2 he
    have hP : setP (K, V, ER) = fun _ => false := by funext x; unfold setP; simp [he]
    rw [hP]
    clear hP
    go_enter Tryz.func27, Tryz.ntmps27
    go_wp2_with fail
    refine C.mono ?_
    rintro e w1 ⟨rfl, hw⟩
    rw [hw]
    clear C hw w1
    go_wp2_with fail
    refine RE.mono ?_
    rintro e w1 ⟨rfl, b1⟩
    clear RE
    go_wp2
    go_ret2
    exact ⟨_, [], rfl, World.ownsRow_nil _ _ _ _, no_set, b1⟩
end Go.Proofs.YtnjomfmdogkhgaaGreatDoor.prp
end

section
/- The document's sets: what is in them. -/
set_option linter.unusedVariables false
set_option linter.unusedSimpArgs false
namespace Go.Proofs.YtnjomfmdogkhgaaGreatDoor.prp
open lin
open Go.Proofs.YtnjomfmdogkhgaaGreatDoor.rng (R IsSet code)

theorem any_first (P : RL → Bool) (x : Int) : ∀ l : List RL, apartK allR l = true → l.any (fun y => P y && inR y x) = ((firstR l x).map P).getD false := by
  intro l
  induction l with
  | nil => intro _; rfl
  | cons y l ih =>
    intro h
    rw [List.any_cons, first_cons]
    cases t : inR y x
    · rw [if_neg (by decide), ih (apart_tail h), Bool.and_false, Bool.false_or]
    · have hn : l.any (fun y => P y && inR y x) = false := by
        rw [List.any_eq_false]
        intro z hz
        rw [apart_one h rfl t z hz rfl, Bool.and_false]
        decide
      rw [if_pos rfl, hn, Bool.or_false, Bool.and_true]
      rfl
theorem any_some (x : Int) (l : List RL) (h : apartK allR l = true) : l.any (fun y => inR y x) = (firstR l x).isSome := by
  have := any_first (fun _ => true) x l h
  simp only [Bool.true_and] at this
  rw [this]
  cases firstR l x <;> rfl
/-- Is the record one of those whose first field is such, or begins so? -/
def wB (c : List UInt8) (b : Bool) (y : RL) : Bool := (y.2.2.getD 0 [] == c) || (b && ((y.2.2.getD 0 []).take 1 == c))
theorem cat_two : ∀ y ∈ catL, (y.2.2.getD 0 []).length = 2 := by decide +kernel
theorem scr_named : ∀ y ∈ scrL, y.2.2.getD 0 [] ≠ [90, 122, 122, 122] := by decide +kernel
theorem catP_ref (v : List UInt8) (hv : v ≠ []) (x : Int) : catP v x = (catL.any (fun y => wB v (v.length == 1) y && inR y x) || ((v == [67, 110] || v == [67]) && !(catL.any (fun y => inR y x)))) := by
  rw [any_first _ x catL cat_apart, any_some x catL cat_apart]
  have hc : catF x = ((firstR catL x).map (fun x => x.2.2.getD 0 [])).getD [67, 110] := sF_first [67, 110] catL cat_apart x
  unfold catP
  cases h : firstR catL x with
  | none =>
    have hc' : catF x = [67, 110] := by rw [hc, h]; rfl
    rw [hc', Option.map_none, Option.getD_none, Option.isSome_none, Bool.not_false, Bool.and_true, Bool.false_or]
    clear hc hc' h
    by_cases hl : 1 < v.length
    · rw [if_pos hl]
      have h1 : (v == [67]) = false := by rw [beq_eq_false_iff_ne]; intro e; rw [e] at hl; simp at hl
      rw [h1, Bool.or_false]
      by_cases e : [67, 110] = v
      · rw [decide_eq_true e, ← e]; rfl
      · rw [decide_eq_false e]; symm; rw [beq_eq_false_iff_ne]; exact fun h => e h.symm
    · rw [if_neg hl]
      cases v with
      | nil => exact absurd rfl hv
      | cons a t =>
        cases t with
        | cons b t => simp at hl
        | nil =>
          unfold Lib.hasPrefix
          simp [List.isPrefixOf]
  | some y =>
    have h2 := cat_two y (first_mem h).1
    have hc' : catF x = y.2.2.getD 0 [] := by rw [hc, h]; rfl
    rw [hc', Option.map_some, Option.getD_some, Option.isSome_some, Bool.not_true, Bool.and_false, Bool.or_false]
    unfold wB
    clear hc hc' h
    generalize y.2.2.getD 0 [] = f at h2 ⊢
    by_cases hl : 1 < v.length
    · rw [if_pos hl]
      have h1 : (v.length == 1) = false := by rw [beq_eq_false_iff_ne]; omega
      rw [h1, Bool.false_and, Bool.or_false]
      by_cases e : f = v
      · rw [decide_eq_true e, e, beq_self_eq_true]
      · rw [decide_eq_false e]; symm; rw [beq_eq_false_iff_ne]; exact e
    · rw [if_neg hl]
      cases v with
      | nil => exact absurd rfl hv
      | cons a t =>
        cases t with
        | cons b t => simp at hl
        | nil =>
          match f, h2 with
          | [p, q], _ =>
            unfold Lib.hasPrefix
            by_cases e : p = a
            · subst e; simp [List.isPrefixOf]
            · have e' : ¬ a = p := fun h => e h.symm
              have e1 : (a == p) = false := beq_eq_false_iff_ne.2 e'
              have e2 : (p == a) = false := beq_eq_false_iff_ne.2 e
              simp [List.isPrefixOf, e1, e2]
theorem scrP_ref (v : List UInt8) (x : Int) : decide (scrF x = v) = if v = [90, 122, 122, 122] then !(scrL.any (fun y => inR y x)) else scrL.any (fun y => wB v false y && inR y x) := by
  rw [any_first _ x scrL scr_apart, any_some x scrL scr_apart]
  have hc : scrF x = ((firstR scrL x).map (fun x => x.2.2.getD 0 [])).getD [90, 122, 122, 122] := sF_first [90, 122, 122, 122] scrL scr_apart x
  cases h : firstR scrL x with
  | none =>
    have hc' : scrF x = [90, 122, 122, 122] := by rw [hc, h]; rfl
    rw [hc', Option.map_none, Option.getD_none, Option.isSome_none, Bool.not_false]
    clear hc hc' h
    by_cases e : v = [90, 122, 122, 122]
    · rw [if_pos e, e, decide_eq_true rfl]
    · rw [if_neg e, decide_eq_false (fun h => e h.symm)]
  | some y =>
    have h2 := scr_named y (first_mem h).1
    have hc' : scrF x = y.2.2.getD 0 [] := by rw [hc, h]; rfl
    rw [hc', Option.map_some, Option.getD_some, Option.isSome_some, Bool.not_true]
    unfold wB
    clear hc hc' h
    generalize y.2.2.getD 0 [] = f at h2 ⊢
    by_cases e : v = [90, 122, 122, 122]
    · rw [if_pos e, e, decide_eq_false h2]
    · rw [if_neg e, Bool.false_and, Bool.or_false]
      by_cases e2 : f = v
      · rw [decide_eq_true e2, e2, beq_self_eq_true]
      · rw [decide_eq_false e2]; symm; rw [beq_eq_false_iff_ne]; exact e2
theorem sc_vals : ∀ r ∈ nam.rowsL, r.1 = [115, 99] → r.2.1 ≠ [65, 110, 121] ∧ r.2.1 ≠ [65, 83, 67, 73, 73] ∧ r.2.1 ≠ [65, 108, 112, 104, 97] ∧ r.2.1 ≠ [76, 111, 119, 101, 114] ∧ r.2.1 ≠ [85, 112, 112, 101, 114] ∧ r.2.1 ≠ [115, 112, 97, 99, 101] := by decide +kernel
theorem bi_vals : ∀ r ∈ nam.rowsL, r.1 = [98, 105] → r.2.1 = [65, 110, 121] ∨ r.2.1 = [65, 83, 67, 73, 73] ∨ r.2.1 = [65, 108, 112, 104, 97] ∨ r.2.1 = [76, 111, 119, 101, 114] ∨ r.2.1 = [85, 112, 112, 101, 114] ∨ r.2.1 = [115, 112, 97, 99, 101] := by decide +kernel
/-- The ranges of the records that are kept. -/
def keptL (P : RL → Bool) (l : List RL) : List R := (l.filter P).map (fun y => (y.1, y.2.1))
theorem kept_snoc (P : RL → Bool) (l : List RL) (y : RL) : keptL P (l ++ [y]) = keptL P l ++ (if P y then [(y.1, y.2.1)] else []) := by
  unfold keptL
  rw [List.filter_append, List.map_append]
  cases t : P y <;> simp [List.filter, t]
theorem kept_len (P : RL → Bool) (l : List RL) : (keptL P l).length ≤ l.length := by
  unfold keptL
  rw [List.length_map]
  exact List.length_filter_le _ _
theorem kept_has (P : RL → Bool) (l : List RL) (x : Int) (hx : code x = true) : rng.has (keptL P l) x = l.any (fun y => P y && inR y x) := by
  rw [Bool.eq_iff_iff, rng.has_iff, List.any_eq_true]
  unfold keptL
  constructor
  · rintro ⟨_, p, hp, h⟩
    obtain ⟨y, hy, rfl⟩ := List.mem_map.1 hp
    obtain ⟨h1, h2⟩ := List.mem_filter.1 hy
    refine ⟨y, h1, ?_⟩
    unfold inR
    rw [h2, decide_eq_true h.1, decide_eq_true h.2]
    rfl
  · rintro ⟨y, hy, h⟩
    rw [Bool.and_eq_true] at h
    have h2 := h.2
    unfold inR at h2
    rw [Bool.and_eq_true, decide_eq_true_eq, decide_eq_true_eq] at h2
    exact ⟨hx, _, List.mem_map.2 ⟨y, List.mem_filter.2 ⟨hy, h.1⟩, rfl⟩, h2⟩
end Go.Proofs.YtnjomfmdogkhgaaGreatDoor.prp
end

section
/- rubricatorref06.with, rubricatorref06.all. -/
set_option linter.unusedVariables false
set_option linter.unusedSimpArgs false
namespace Go.Proofs.YtnjomfmdogkhgaaGreatDoor.prp
open Go.RowKit Go.Maps lin
open Go.Proofs.YtnjomfmdogkhgaaGreatDoor.rng (R IsSet Sl code)

set_option maxHeartbeats 2000000 in
set_option maxRecDepth 1000000 in
theorem with_any (v : Value) (l : List RL) (c : List UInt8) (b : Bool) (w : World) (h : View w v (l.map recOf)) (h0 : 0 < l.length) (hn : l.length ≤ 1000) (hf : ∀ x ∈ l, 0 < x.2.2.length ∧ 0 < (x.2.2.getD 0 []).length) :
    Calls Tryz.prog 61 #[v, .string (BA c), .bool b] w fun e w' => ∃ v' r, e = .returned v' ∧ rng.Sl w' v' r ∧ IsSet r (fun x => l.any (fun y => (wB c b) y && inR y x)) ∧ Below w.heap.size w w' := by
  obtain ⟨i0, hi, hz0, hz1, hz2⟩ := rng.info_parts rng.infoRange
  obtain ⟨rb, ro, rc, rfl, hrec⟩ := view_recs h h0
  have HREC : Hid (∀ (i : Nat) (r : RL), l[i]? = some r → ∃ g o2 c2, RecM w rb (ro + i * 3) r g o2 c2) := hrec
  have HNX : Hid (∀ (i : Nat) (r : RL), l[i]? = some r → l.take (i + 1) = l.take i ++ [r]) := fun i r hi => by rw [List.take_add_one, hi]; rfl
  have HFF : Hid (∀ (i : Nat) (r : RL), l[i]? = some r → ∃ f, r.2.2[0]? = some f ∧ r.2.2.getD 0 [] = f ∧ 0 < f.length ∧ (0 : Int) < (r.2.2.length : Int)) := fun i r hi => by
    obtain ⟨h1, h2⟩ := hf r (List.mem_of_getElem? hi)
    refine ⟨_, List.getElem?_eq_getElem h1, by rw [List.getD_eq_getElem?_getD, List.getElem?_eq_getElem h1, Option.getD_some], ?_, by omega⟩
    rw [List.getD_eq_getElem?_getD, List.getElem?_eq_getElem h1, Option.getD_some] at h2
    exact h2
  clear hf
  clear h hrec
  go_enter Tryz.func61, Tryz.ntmps61
  go_wp2
  go_loopw [7, 13] (fun u i wr => ∃ (k : Nat) (out : List R), k ≤ l.length ∧ i = .int .i64 k ∧ out.length ≤ k ∧ Hid (out = keptL (wB c b) (l.take k)) ∧ wr.ownsRow w.heap.size 40 2 u out.length (rng.flat out) ∧ Below w.heap.size w wr) (fun _ i _ => l.length - (RowKit.intOf i).toNat)
  case atStart => exact ⟨0, [], Nat.zero_le _, rfl, Nat.le_refl _, rfl, World.ownsRow_nil _ _ _ _, Below.refl _ w⟩
  case round =>
    obtain ⟨k, out, hk, rfl, hol, HO, hown, hbel⟩ := hrel
    by_cases hlt : k < l.length
    · have hlt' : (k : Int) < (l.length : Int) := by omega
      obtain ⟨x, hx⟩ : ∃ x, l[k]? = some x := ⟨_, List.getElem?_eq_getElem hlt⟩
      obtain ⟨fg, fo, fc, hrm0⟩ := HREC.out k x hx
      have hrm := hrm0.below hbel
      have HN : Hid (keptL (wB c b) (l.take (k + 1)) = keptL (wB c b) (l.take k) ++ (if (wB c b) x then [(x.1, x.2.1)] else [])) := by unfold Hid; rw [HNX.out k x hx, kept_snoc]
      have q0 := hrm.lo
      have q1 := hrm.hi
      have q2 := hrm.fv
      have hbs := hbel.size
      have HW : Hid (∀ j, u7.ownBlock = some j → w.heap.size ≤ j) := fun j e => (hown.lt _ e).1
      obtain ⟨f, hf0, hf1, hf2, hf3⟩ := HFF.out k x hx
      have q3 := hrm.fs 0 f hf0
      rw [Nat.add_zero] at q3
      have hfgw : fg < wr.heap.size := World.block_lt_of_cell? wr ⟨fg, fo, none⟩ q3
      have hwb : wB c b x = ((f == c) || (b && (f.take 1 == c))) := by unfold wB; rw [hf1]
      have hbz : (BA f).size = f.length := BA_size f
      have hb1 : (1 : Int) ≤ ((BA f).size : Int) := by omega
      have hx1 : (BA f).extract 0 1 = BA (f.take 1) := by rw [ext_list]; rfl
      have et : ∀ a : List UInt8, ((BA a).toList == (BA c).toList) = (a == c) := fun a => by rw [Lib.toList_data, Lib.toList_data, BA_data, BA_data]
      have e1 := et f
      have e2 := et (f.take 1)
      clear hrm hrm0 hx hf0 hf1 et hf2
      generalize hL3 : x.2.2.length = n3 at *
      obtain ⟨lo, hi', fs⟩ := x
      simp only at *
      clear hL3
      generalize BA (f.take 1) = F1 at *
      generalize BA f = F0 at *
      generalize BA c = C0 at *
      cases t1 : (f == c) with
      | true =>
        have hT : wB c b (lo, hi', fs) = true := by rw [hwb, t1]; rfl
        rw [t1] at e1
        have HE : Hid (out ++ [(lo, hi')] = keptL (wB c b) (l.take (k + 1))) := by unfold Hid; rw [HN.out, hT, if_pos rfl, ← HO.out]
        clear HN HO
        clear hT hwb e2 t1
        go_wp2_with (at_builtin; refine wpList_append_own _ rfl _ _ 34 rfl w.heap.size 40 i0 (.agg #[.int .i64 0, .int .i64 0]) 2 16 Tryz.underlying34 hi hz0 hz1 hz2 rfl (by decide) _ _ _ rfl ((hown.alloc _).alloc _) ⟨wr.heap.size + 1, 0, none⟩ 1 1 [.int .i64 lo, .int .i64 hi'] rfl rfl ?c1 ?c2 ?c3 ?c4 ?c5 ?_)
        case c1 => exact rng.two_new _ _ _ _ _
        case c2 => first | (intro u hu; simp at hu; rcases hu with rfl | rfl <;> rfl) | (refine ⟨?_, ?_⟩ <;> rfl)
        case c3 => unfold maxLen; omega
        case c4 => omega
        case c5 => first | omega | (simp; omega)
        intro v' w4 hown4 hgrow _
        have R2 := Below.grown ((hbel.alloc hbs (.cells #[.int .i64 lo, .int .i64 hi', .slice (some ⟨fg, fo, none⟩) n3 fc] 73)).alloc (by simp; omega) (.cells #[.int .i64 lo, .int .i64 hi'] 40)) hgrow (by simp; omega) HW.out
        have R1 : w4.ownsRow w.heap.size 40 2 v' (out ++ [(lo, hi')]).length (rng.flat (out ++ [(lo, hi')])) := by
          rw [rng.flat_append, rng.flat_two, List.length_append]; exact hown4
        have R3 : (out ++ [(lo, hi')]).length ≤ k + 1 := by rw [List.length_append]; simp; omega
        clear hown4 hgrow
        go_wp2
        go_roundw
        case rel => exact ⟨k + 1, out ++ [(lo, hi')], by omega, by go_num, R3, HE, R1, R2⟩
        case measure => simp [RowKit.intOf]; omega
      | false =>
        rw [t1] at e1
        cases b with
        | false =>
          have hT : wB c false (lo, hi', fs) = false := by rw [hwb, t1]; rfl
          have HE : Hid (out = keptL (wB c false) (l.take (k + 1))) := by unfold Hid; rw [HN.out, hT, if_neg (by decide), List.append_nil, ← HO.out]
          clear HN HO
          clear hT hwb e2 t1
          go_wp2
          go_roundw
          case rel => exact ⟨k + 1, out, by omega, by go_num, by omega, HE, hown.alloc _, hbel.alloc hbs _⟩
          case measure => simp [RowKit.intOf]; omega
        | true =>
          cases t2 : (f.take 1 == c) with
          | true =>
            have hT : wB c true (lo, hi', fs) = true := by rw [hwb, t1, t2]; rfl
            rw [t2] at e2
            have HE : Hid (out ++ [(lo, hi')] = keptL (wB c true) (l.take (k + 1))) := by unfold Hid; rw [HN.out, hT, if_pos rfl, ← HO.out]
            clear HN HO
            clear hT hwb t1 t2
            go_wp2_with (at_builtin; refine wpList_append_own _ rfl _ _ 34 rfl w.heap.size 40 i0 (.agg #[.int .i64 0, .int .i64 0]) 2 16 Tryz.underlying34 hi hz0 hz1 hz2 rfl (by decide) _ _ _ rfl ((hown.alloc _).alloc _) ⟨wr.heap.size + 1, 0, none⟩ 1 1 [.int .i64 lo, .int .i64 hi'] rfl rfl ?c1 ?c2 ?c3 ?c4 ?c5 ?_)
            case c1 => exact rng.two_new _ _ _ _ _
            case c2 => first | (intro u hu; simp at hu; rcases hu with rfl | rfl <;> rfl) | (refine ⟨?_, ?_⟩ <;> rfl)
            case c3 => unfold maxLen; omega
            case c4 => omega
            case c5 => first | omega | (simp; omega)
            intro v' w4 hown4 hgrow _
            have R2 := Below.grown ((hbel.alloc hbs (.cells #[.int .i64 lo, .int .i64 hi', .slice (some ⟨fg, fo, none⟩) n3 fc] 73)).alloc (by simp; omega) (.cells #[.int .i64 lo, .int .i64 hi'] 40)) hgrow (by simp; omega) HW.out
            have R1 : w4.ownsRow w.heap.size 40 2 v' (out ++ [(lo, hi')]).length (rng.flat (out ++ [(lo, hi')])) := by
              rw [rng.flat_append, rng.flat_two, List.length_append]; exact hown4
            have R3 : (out ++ [(lo, hi')]).length ≤ k + 1 := by rw [List.length_append]; simp; omega
            clear hown4 hgrow
            go_wp2
            go_roundw
            case rel => exact ⟨k + 1, out ++ [(lo, hi')], by omega, by go_num, R3, HE, R1, R2⟩
            case measure => simp [RowKit.intOf]; omega
          | false =>
            have hT : wB c true (lo, hi', fs) = false := by rw [hwb, t1, t2]; rfl
            rw [t2] at e2
            have HE : Hid (out = keptL (wB c true) (l.take (k + 1))) := by unfold Hid; rw [HN.out, hT, if_neg (by decide), List.append_nil, ← HO.out]
            clear HN HO
            clear hT hwb t1 t2
            go_wp2
            go_roundw
            case rel => exact ⟨k + 1, out, by omega, by go_num, by omega, HE, hown.alloc _, hbel.alloc hbs _⟩
            case measure => simp [RowKit.intOf]; omega
    · have hge : ¬ (k : Int) < (l.length : Int) := by omega
      have HD : Hid (out = keptL (wB c b) l) := by
        have := HO.out; rw [List.take_of_length_le (by omega)] at this; exact this
      have C := rng.rmake_s u7 out wr (rng.Own.sl hown) (by omega)
      obtain ⟨ua, uc, rfl⟩ := own_slice hown
      have HBE : Hid (Below w.heap.size w wr) := hbel
      clear HO hown hbel
      generalize out.length = ol at *
      go_wp2_with fail
      refine C.mono ?_
      rintro e w2 ⟨v2, r2, rfl, o2, i2, b2⟩
      have I2 : Hid (IsSet r2 (rng.has out)) := i2
      have O2 : Hid (rng.Sl w2 v2 r2) := o2
      clear i2 o2 C
      go_wp2
      go_ret
      refine ⟨_, r2, rfl, O2.out, I2.out.congr (fun x hx => ?_), HBE.out.trans (b2.mono HBE.out.size)⟩
      rw [HD.out, kept_has _ _ _ hx]
set_option maxHeartbeats 2000000 in
set_option maxRecDepth 1000000 in
theorem all_any (v : Value) (l : List RL) (w : World) (h : View w v (l.map recOf)) (h0 : 0 < l.length) (hn : l.length ≤ 1000) :
    Calls Tryz.prog 59 #[v] w fun e w' => ∃ v' r, e = .returned v' ∧ rng.Sl w' v' r ∧ IsSet r (fun x => l.any (fun y => (allR) y && inR y x)) ∧ Below w.heap.size w w' := by
  obtain ⟨i0, hi, hz0, hz1, hz2⟩ := rng.info_parts rng.infoRange
  obtain ⟨rb, ro, rc, rfl, hrec⟩ := view_recs h h0
  have HREC : Hid (∀ (i : Nat) (r : RL), l[i]? = some r → ∃ g o2 c2, RecM w rb (ro + i * 3) r g o2 c2) := hrec
  have HNX : Hid (∀ (i : Nat) (r : RL), l[i]? = some r → l.take (i + 1) = l.take i ++ [r]) := fun i r hi => by rw [List.take_add_one, hi]; rfl
  clear h hrec
  go_enter Tryz.func59, Tryz.ntmps59
  go_wp2
  go_loopw [3, 8] (fun u i wr => ∃ (k : Nat) (out : List R), k ≤ l.length ∧ i = .int .i64 k ∧ out.length ≤ k ∧ Hid (out = keptL (allR) (l.take k)) ∧ wr.ownsRow w.heap.size 40 2 u out.length (rng.flat out) ∧ Below w.heap.size w wr) (fun _ i _ => l.length - (RowKit.intOf i).toNat)
  case atStart => exact ⟨0, [], Nat.zero_le _, rfl, Nat.le_refl _, rfl, World.ownsRow_nil _ _ _ _, Below.refl _ w⟩
  case round =>
    obtain ⟨k, out, hk, rfl, hol, HO, hown, hbel⟩ := hrel
    by_cases hlt : k < l.length
    · have hlt' : (k : Int) < (l.length : Int) := by omega
      obtain ⟨x, hx⟩ : ∃ x, l[k]? = some x := ⟨_, List.getElem?_eq_getElem hlt⟩
      obtain ⟨fg, fo, fc, hrm0⟩ := HREC.out k x hx
      have hrm := hrm0.below hbel
      have HN : Hid (keptL (allR) (l.take (k + 1)) = keptL (allR) (l.take k) ++ (if (allR) x then [(x.1, x.2.1)] else [])) := by unfold Hid; rw [HNX.out k x hx, kept_snoc]
      have q0 := hrm.lo
      have q1 := hrm.hi
      have q2 := hrm.fv
      have hbs := hbel.size
      have HW : Hid (∀ j, u3.ownBlock = some j → w.heap.size ≤ j) := fun j e => (hown.lt _ e).1
      clear hrm hrm0 hx
      generalize hL3 : x.2.2.length = n3 at *
      obtain ⟨lo, hi', fs⟩ := x
      simp only at *
      clear hL3
      have hT : allR (lo, hi', fs) = true := rfl
      have HE : Hid (out ++ [(lo, hi')] = keptL (allR) (l.take (k + 1))) := by unfold Hid; rw [HN.out, hT, if_pos rfl, ← HO.out]
      clear HN HO
      clear hT
      go_wp2_with (at_builtin; refine wpList_append_own _ rfl _ _ 34 rfl w.heap.size 40 i0 (.agg #[.int .i64 0, .int .i64 0]) 2 16 Tryz.underlying34 hi hz0 hz1 hz2 rfl (by decide) _ _ _ rfl ((hown.alloc _).alloc _) ⟨wr.heap.size + 1, 0, none⟩ 1 1 [.int .i64 lo, .int .i64 hi'] rfl rfl ?c1 ?c2 ?c3 ?c4 ?c5 ?_)
      case c1 => exact rng.two_new _ _ _ _ _
      case c2 => first | (intro u hu; simp at hu; rcases hu with rfl | rfl <;> rfl) | (refine ⟨?_, ?_⟩ <;> rfl)
      case c3 => unfold maxLen; omega
      case c4 => omega
      case c5 => first | omega | (simp; omega)
      intro v' w4 hown4 hgrow _
      have R2 := Below.grown ((hbel.alloc hbs (.cells #[.int .i64 lo, .int .i64 hi', .slice (some ⟨fg, fo, none⟩) n3 fc] 73)).alloc (by simp; omega) (.cells #[.int .i64 lo, .int .i64 hi'] 40)) hgrow (by simp; omega) HW.out
      have R1 : w4.ownsRow w.heap.size 40 2 v' (out ++ [(lo, hi')]).length (rng.flat (out ++ [(lo, hi')])) := by
        rw [rng.flat_append, rng.flat_two, List.length_append]; exact hown4
      have R3 : (out ++ [(lo, hi')]).length ≤ k + 1 := by rw [List.length_append]; simp; omega
      clear hown4 hgrow
      go_wp2
      go_roundw
      case rel => exact ⟨k + 1, out ++ [(lo, hi')], by omega, by go_num, R3, HE, R1, R2⟩
      case measure => simp [RowKit.intOf]; omega
    · have hge : ¬ (k : Int) < (l.length : Int) := by omega
      have HD : Hid (out = keptL (allR) l) := by
        have := HO.out; rw [List.take_of_length_le (by omega)] at this; exact this
      have C := rng.rmake_s u3 out wr (rng.Own.sl hown) (by omega)
      obtain ⟨ua, uc, rfl⟩ := own_slice hown
      have HBE : Hid (Below w.heap.size w wr) := hbel
      clear HO hown hbel
      generalize out.length = ol at *
      go_wp2_with fail
      refine C.mono ?_
      rintro e w2 ⟨v2, r2, rfl, o2, i2, b2⟩
      have I2 : Hid (IsSet r2 (rng.has out)) := i2
      have O2 : Hid (rng.Sl w2 v2 r2) := o2
      clear i2 o2 C
      go_wp2
      go_ret
      refine ⟨_, r2, rfl, O2.out, I2.out.congr (fun x hx => ?_), HBE.out.trans (b2.mono HBE.out.size)⟩
      rw [HD.out, kept_has _ _ _ hx]
end Go.Proofs.YtnjomfmdogkhgaaGreatDoor.prp
end
