/- Texts that the proof leans on, one behind the other. -/
import Derived.Test.YtnjomfmdogkhgaaGreatDoorBnd9
import Derived.Test.YtnjomfmdogkhgaaGreatDoorBnd4
import Derived.Test.YtnjomfmdogkhgaaGreatDoorChecked

section
/- props.along, props.partsOf, props.foldingsOf. -/
set_option linter.unusedVariables false
set_option linter.unusedSimpArgs false
namespace Go.Proofs.YtnjomfmdogkhgaaGreatDoor.prp
open Go.RowKit Go.Maps lin

theorem own_set {w : World} {base g n cap i : Nat} {xs : List Value} (h : w.ownsRow base 3 1 (.slice (some ⟨g, 0, none⟩) n cap) n xs) (hi : i < n) (u : Value) :
    (w.setCell ⟨g, i, none⟩ u).ownsRow base 3 1 (.slice (some ⟨g, 0, none⟩) n cap) n (xs.set i u) ∧ w.frozen? ⟨g, i, none⟩ = false ∧ w.cell? ⟨g, i, none⟩ = xs[i]? := by
  obtain ⟨hl, h⟩ := h
  rcases h with ⟨h, _⟩ | ⟨g', cap', cur, he, hg, hgg, h3, h4, h5, h6⟩
  · cases h
  · cases he
    refine ⟨⟨by rw [List.length_set]; exact hl, .inr ⟨g, cap, cur.setIfInBounds i u, rfl, hg, heap_setCell_same w g i cur _ u hgg, h3, h4, by simpa using h5, ?_⟩⟩, by simp [World.frozen?, hgg], ?_⟩
    · rw [Array.toList_setIfInBounds, List.take_set, h6]
    · rw [cell_of_row w g i cur _ _ hgg, ← h6, List.getElem?_take_of_lt (by omega), Array.getElem?_toList]

theorem step_list (xs : List Int) (k : Int) (j : Nat) (x : Int) (hx : xs[j]? = some x) (f : Int → Value) :
    (((xs.map (· + k)).take j ++ xs.drop j).map f).set j (f (x + k)) = ((xs.map (· + k)).take (j + 1) ++ xs.drop (j + 1)).map f := by
  have hlt := (List.getElem?_eq_some_iff.1 hx).1
  have hd : xs.drop j = x :: xs.drop (j + 1) := by rw [List.drop_eq_getElem_cons hlt, (List.getElem?_eq_some_iff.1 hx).2]
  have ht : (xs.map (· + k)).take (j + 1) = (xs.map (· + k)).take j ++ [x + k] := by rw [List.take_add_one, List.getElem?_map, hx]; rfl
  have hl : (((xs.map (· + k)).take j).map f).length = j := by rw [List.length_map, List.length_take, List.length_map]; omega
  rw [hd, ht, List.map_append, List.map_append, List.map_append, List.append_assoc, List.set_append_right _ _ (by omega), hl, Nat.sub_self]
  rfl

set_option maxHeartbeats 1500000 in
set_option maxRecDepth 1000000 in
theorem along_any (v : Value) (xs : List Int) (k : Int) (w : World) (h : IV w v xs) (hn : xs.length ≤ 1000000) (hk : 0 ≤ k ∧ k ≤ 1114111) (hx : ∀ x ∈ xs, 0 ≤ x ∧ x ≤ 1114111) :
    Calls Tryz.prog 72 #[v, .int .i64 k] w fun e w' => ∃ v', e = .returned v' ∧ IOwn w' w.heap.size v' (xs.map (· + k)) ∧ Below w.heap.size w w' := by
  have CL := iclone_any v xs w h hn
  obtain ⟨a0, c0, rfl, _⟩ := h
  have HX : Hid (∀ (i : Nat) (x : Int), xs[i]? = some x → 0 ≤ x ∧ x ≤ 1114111) := fun i x hi => hx x (List.mem_of_getElem? hi)
  clear hx
  go_enter Tryz.func72, Tryz.ntmps72
  go_wp2_with fail
  refine CL.mono ?_
  rintro e w1 ⟨v', rfl, ho, b1⟩
  clear CL
  have hs1 := b1.size
  rcases Nat.eq_zero_or_pos xs.length with h0 | h0
  · have hx0 : xs = [] := List.eq_nil_of_length_eq_zero h0
    subst hx0
    obtain ⟨va, vc, rfl⟩ := own_slice ho
    have HO : Hid (IOwn w1 w.heap.size (.slice va 0 vc) []) := ho
    clear ho
    go_wp2
    refine wp_loop_rounds 1 ?_
    rw [rounds_succ]
    go_wp2
    try rw [Exit.noGoto_ret]
    go_ret
    exact ⟨_, rfl, HO.out, b1⟩
  · obtain ⟨g, cap, rfl⟩ : ∃ g cap, v' = .slice (some ⟨g, 0, none⟩) xs.length cap := by
      rcases ho.2 with ⟨_, hn⟩ | ⟨g, cap, cur, he, _⟩
      · omega
      · exact ⟨g, cap, he⟩
    have hgl : g < w1.heap.size ∧ w.heap.size ≤ g := ⟨(ho.lt g rfl).2, (ho.lt g rfl).1⟩
    have HO : Hid (w1.ownsRow w.heap.size 3 1 (.slice (some ⟨g, 0, none⟩) xs.length cap) xs.length (((xs.map (· + k)).take 0 ++ xs.drop 0).map (Value.int .i64))) := ho
    clear ho
    go_wp2
    go_loopw [11] (fun i wr => ∃ j : Nat, j ≤ xs.length ∧ i = .int .i64 j ∧ Hid (wr.ownsRow w.heap.size 3 1 (.slice (some ⟨g, 0, none⟩) xs.length cap) xs.length (((xs.map (· + k)).take j ++ xs.drop j).map (Value.int .i64))) ∧ Below w.heap.size w wr) (fun i _ => xs.length - (RowKit.intOf i).toNat)
    case atStart => exact ⟨0, Nat.zero_le _, rfl, HO, b1⟩
    case round =>
      clear HO
      obtain ⟨j, hj, rfl, HR, hbel⟩ := hrel
      by_cases hlt : j < xs.length
      · have hlt' : (j : Int) < (xs.length : Int) := by omega
        obtain ⟨x, hx⟩ : ∃ x, xs[j]? = some x := ⟨_, List.getElem?_eq_getElem hlt⟩
        obtain ⟨hx1, hx2⟩ := HX.out j x hx
        obtain ⟨hset, hfr, hce⟩ := own_set HR.out hlt (.int .i64 (x + k))
        have hlen : ((xs.map (· + k)).take j).length = j := by rw [List.length_take, List.length_map]; omega
        have hce2 : wr.cell? ⟨g, j, none⟩ = some (.int .i64 x) := by
          rw [hce, List.getElem?_map, List.getElem?_append_right (by omega), hlen, Nat.sub_self, List.getElem?_drop, Nat.add_zero, hx]; rfl
        have HR2 : Hid ((wr.setCell ⟨g, j, none⟩ (.int .i64 (x + k))).ownsRow w.heap.size 3 1 (.slice (some ⟨g, 0, none⟩) xs.length cap) xs.length (((xs.map (· + k)).take (j + 1) ++ xs.drop (j + 1)).map (Value.int .i64))) := by
          have e := step_list xs k j x hx (Value.int .i64)
          rw [e] at hset
          exact hset
        have hb2 : Below w.heap.size w (wr.setCell ⟨g, j, none⟩ (.int .i64 (x + k))) := hbel.trans ⟨rfl, rfl, rfl, by simp, fun q hq => heap_setCell_other _ _ _ _ (by show q ≠ g; omega)⟩
        have wx : IntKind.i64.wrap (x + k) = x + k := by rw [IntKind.wrap_i64]; omega
        clear hset hce HR hx
        go_wp2
        exact ⟨⟨j + 1, by omega, by go_num, HR2, hb2⟩, by simp [intOf]; omega⟩
      · have hge : ¬ (j : Int) < (xs.length : Int) := by omega
        obtain rfl : j = xs.length := by omega
        have HR2 : Hid (IOwn wr w.heap.size (.slice (some ⟨g, 0, none⟩) xs.length cap) (xs.map (· + k))) := by
          have h := HR.out
          rw [List.drop_length, List.append_nil, List.take_of_length_le (by rw [List.length_map]; exact Nat.le_refl _)] at h
          unfold Hid IOwn
          rw [List.length_map]
          exact h
        clear HR
        go_wp2
        go_ret
        exact ⟨_, rfl, HR2.out, hbel⟩

/-- A map in the making: of the records ahead of the k-th, and of the k-th one's code points ahead of p. -/
theorem updL_in (val : RL → Int → Option (List Int)) (g : Int → Option (List Int)) (x : RL) (p : Int) (xs : List Int) (hp : x.1 ≤ p ∧ p ≤ x.2.1) (hv : val x p = some xs) :
    updL (fun r => if x.1 ≤ r ∧ r < p then (val x r).or (g r) else g r) p xs = fun r => if x.1 ≤ r ∧ r < p + 1 then (val x r).or (g r) else g r := by
  funext r
  unfold updL
  show (if r = p then some xs else (if x.1 ≤ r ∧ r < p then (val x r).or (g r) else g r)) = (if x.1 ≤ r ∧ r < p + 1 then (val x r).or (g r) else g r)
  by_cases h : r = p
  · subst h
    rw [if_pos rfl, if_pos ⟨hp.1, by omega⟩, hv]
    rfl
  · rw [if_neg h]
    by_cases h2 : x.1 ≤ r ∧ r < p
    · rw [if_pos h2, if_pos ⟨h2.1, by omega⟩]
    · rw [if_neg h2, if_neg (fun h3 => h2 ⟨h3.1, by omega⟩)]

set_option maxHeartbeats 2000000 in
set_option maxRecDepth 1000000 in
theorem parts_any (v : Value) (l : List RL) (w : World) (E : Env w) (h : View w v (l.map recOf)) (h0 : 0 < l.length) (hn : l.length ≤ 1000) (hf : ∀ x ∈ l, fitB x = true) :
    Calls Tryz.prog 43 #[v] w fun e w' => ∃ b, e = .returned (.map (some b)) ∧ LMap w' b 2000000 (lastG partsVal l) ∧ Below w.heap.size w w' := by
  obtain ⟨rb, ro, rc, rfl, hrec⟩ := view_recs h h0
  have HREC : Hid (∀ (i : Nat) (r : RL), l[i]? = some r → ∃ g o2 c2, RecM w rb (ro + i * 3) r g o2 c2) := hrec
  have HE : Hid (Env w) := E
  have HFT : Hid (∀ (i : Nat) (r : RL), l[i]? = some r → fitB r = true) := fun i r hi => hf r (List.mem_of_getElem? hi)
  have HNX : Hid (∀ (i : Nat) (r : RL), l[i]? = some r → l.take (i + 1) = l.take i ++ [r]) := fun i r hi => by rw [List.take_add_one, hi]; rfl
  clear h hrec hf E
  have hmm := @run_makeMap Tryz.prog
  go_enter Tryz.func43, Tryz.ntmps43
  go_wp2
  clear hmm
  go_loopw [10] (fun i wr => ∃ k : Nat, k ≤ l.length ∧ i = .int .i64 k ∧ Hid (LMap wr w.heap.size (1001 * k) (lastG partsVal (l.take k))) ∧ Below w.heap.size w wr) (fun i _ => l.length - (RowKit.intOf i).toNat)
  case atStart => exact ⟨0, Nat.zero_le _, rfl, LMap.made w, (Below.refl _ w).alloc (Nat.le_refl _) _⟩
  case round =>
    obtain ⟨k, hk, rfl, HL, hbel⟩ := hrel
    by_cases hlt : k < l.length
    · have hlt' : (k : Int) < (l.length : Int) := by omega
      obtain ⟨x, hx⟩ : ∃ x, l[k]? = some x := ⟨_, List.getElem?_eq_getElem hlt⟩
      obtain ⟨fg, fo, fc, hrm0⟩ := HREC.out k x hx
      have hrm := hrm0.below hbel
      obtain ⟨f1, f2, f3, f4, f5, f6⟩ := fit_spec (HFT.out k x hx)
      obtain ⟨f, hfx⟩ : ∃ f, x.2.2[0]? = some f := ⟨_, List.getElem?_eq_getElem (by omega)⟩
      obtain ⟨f7, f8⟩ := f6 f (List.mem_of_getElem? hfx)
      have hcp : cp x 0 = pts (wordsB (BA f)) := by unfold cp; rw [List.getD_eq_getElem?_getD, hfx]; rfl
      have HTK := HNX.out k x hx
      have HEND : Hid (lastG partsVal (l.take (k + 1)) = fun r => (partsVal x r).or (lastG partsVal (l.take k) r)) := by rw [Hid, HTK, lastG_snoc]
      have HVAL : Hid (∀ r, x.1 ≤ r → r ≤ x.2.1 → partsVal x r = some (pts (wordsB (BA f)))) := fun r h1 h2 => by unfold partsVal inR; rw [decide_eq_true h1, decide_eq_true h2, ← hcp]; rfl
      have HOUT : Hid (∀ r, ¬ (x.1 ≤ r ∧ r ≤ x.2.1) → partsVal x r = none) := fun r h1 => by
        unfold partsVal inR
        rw [if_neg]
        simp only [Bool.and_eq_true, decide_eq_true_eq]
        exact h1
      have q0 := hrm.lo
      have q1 := hrm.hi
      have q2 := hrm.fv
      have q3 := hrm.fs 0 f hfx
      rw [Nat.add_zero] at q3
      have q3w := hrm0.fs 0 f hfx
      rw [Nat.add_zero] at q3w
      have hbs := hbel.size
      have HCO : Hid (∀ W, Env W → Calls Tryz.prog 71 #[.string (BA f)] W fun e w' => ∃ v, e = .returned v ∧ IOwn w' W.heap.size v (pts (wordsB (BA f))) ∧ Below W.heap.size W w') := fun W EW => code_any (BA f) W EW (by omega) f8
      have HLN : Hid ((x.2.2).length = (x.2.2).length) := rfl
      have f5' : (1 : Int) ≤ (x.2.2.length : Int) := by omega
      have f5'' : (0 : Int) < (x.2.2.length : Int) := by omega
      have HG0 : Hid (lastG partsVal (l.take k) = fun r => if x.1 ≤ r ∧ r < x.1 then (partsVal x r).or (lastG partsVal (l.take k) r) else lastG partsVal (l.take k) r) := by
        unfold Hid; funext r; rw [if_neg (by omega)]
      clear HTK hx hfx f6 f7 f8 hcp hrm hrm0
      generalize lastG partsVal (l.take k) = G at *
      generalize hL3 : x.2.2.length = n3 at *
      obtain ⟨lo, hi, fs⟩ := x
      simp only at *
      go_wp2
      have hlw : w.heap.size < wr.heap.size := HL.out.lt
      have hfgw : fg < w.heap.size := World.block_lt_of_cell? w ⟨fg, fo, none⟩ q3w
      have W1b : Below wr.heap.size wr (wr.alloc (.cells #[.int .i64 lo, .int .i64 hi, .slice (some ⟨fg, fo, none⟩) n3 fc] 73)) := (Below.refl _ wr).alloc (Nat.le_refl _) _
      have L1 := HL.out.below W1b
      have nb1 : (wr.alloc (.cells #[.int .i64 lo, .int .i64 hi, .slice (some ⟨fg, fo, none⟩) n3 fc] 73)).heap[wr.heap.size]? = some (.cells #[.int .i64 lo, .int .i64 hi, .slice (some ⟨fg, fo, none⟩) n3 fc] 73 (0, 0)) := World.alloc_heap_new _ _
      have bw1 := hbel.trans (W1b.mono hbs)
      generalize wr.alloc (.cells #[.int .i64 lo, .int .i64 hi, .slice (some ⟨fg, fo, none⟩) n3 fc] 73) = W1 at *
      have hw1s := bw1.size
      have hlt1 : wr.heap.size < W1.heap.size := (Array.getElem?_eq_some_iff.1 nb1).1
      have HCELL : Hid (∀ W, Turns (fun k => k = w.heap.size) W1 W → W.cell? ⟨wr.heap.size, 0, none⟩ = some (.int .i64 lo) ∧ W.cell? ⟨wr.heap.size, 1, none⟩ = some (.int .i64 hi) ∧ W.cell? ⟨wr.heap.size, 2, none⟩ = some (.slice (some ⟨fg, fo, none⟩) n3 fc) ∧ W.cell? ⟨fg, fo, none⟩ = some (.string (BA f)) ∧ Env W ∧ Below w.heap.size w W) := fun W t => by
        have h := (t.block _ hlt1 (by omega)).trans nb1
        have hb := bw1.trans (t.below hw1s (fun k d => by omega))
        exact ⟨cell_of_row W _ 0 _ _ _ h, cell_of_row W _ 1 _ _ _ h, cell_of_row W _ 2 _ _ _ h, (hb.cell (p := ⟨fg, fo, none⟩) hfgw).trans q3w, HE.out.below hb, hb⟩
      clear W1b nb1 q0 q1 q2 q3 HL hbel
      generalize wr.heap.size = RB at *
      rw [HG0.out] at L1
      have L2 : Hid (LMap W1 w.heap.size (1001 * k + (lo - lo).toNat) (fun r => if lo ≤ r ∧ r < lo then (partsVal (lo, hi, fs) r).or (G r) else G r)) := by unfold Hid; rw [Int.sub_self]; exact L1
      clear L1 HG0
      go_loopw [6] (fun u wz => ∃ p : Int, lo ≤ p ∧ p ≤ hi + 1 ∧ u = .int .i64 p ∧ Hid (LMap wz w.heap.size (1001 * k + (p - lo).toNat) (fun r => if lo ≤ r ∧ r < p then (partsVal (lo, hi, fs) r).or (G r) else G r)) ∧ Hid (Turns (fun k => k = w.heap.size) W1 wz)) (fun u _ => (hi + 1 - RowKit.intOf u).toNat)
      case atStart => exact ⟨lo, by omega, by omega, rfl, L2, Turns.refl _ _⟩
      case round =>
        clear L2
        obtain ⟨p, hp1, hp2, rfl, HM, HT⟩ := hrel
        obtain ⟨c0, c1, c2, c3, env, hbw⟩ := HCELL.out _ HT.out
        have hwz := hbw.size
        by_cases hpi : p ≤ hi
        · have CO := HCO.out wr env
          have hv := HVAL.out p hp1 hpi
          have hup := updL_in partsVal G (lo, hi, fs) p (pts (wordsB (BA f))) ⟨hp1, hpi⟩ hv
          simp only at hup
          have wp1 : IntKind.i64.wrap (p + 1) = p + 1 := by rw [IntKind.wrap_i64]; omega
          go_wp2_with fail
          refine CO.mono ?_
          rintro e w3 ⟨cv, rfl, ho, hb3⟩
          clear CO
          obtain ⟨va, vc, rfl⟩ := own_slice ho
          obtain ⟨w4, hrun, hM4, hg4⟩ := (HM.out.below hb3).put (by unfold maxLen; omega) (x := p) ⟨by omega, by omega⟩ ho.iv
          rw [hup] at hM4
          have HM2 : Hid (LMap w4 w.heap.size (1001 * k + (p + 1 - lo).toNat) (fun r => if lo ≤ r ∧ r < p + 1 then (partsVal (lo, hi, fs) r).or (G r) else G r)) := hM4.mono (by omega)
          have HT2 : Hid (Turns (fun k => k = w.heap.size) W1 w4) := (HT.out.trans (.of_below hb3)).trans (.of_grown hg4 (fun k e => by cases e; rfl))
          clear HM HT hM4 hg4 ho hb3 hup hv
          go_wp2
          exact ⟨⟨p + 1, by omega, by omega, rfl, HM2, HT2⟩, by simp [intOf]; omega⟩
        · obtain rfl : p = hi + 1 := by omega
          have HM2 : Hid (LMap wr w.heap.size (1001 * (k + 1)) (lastG partsVal (l.take (k + 1)))) := by
            rw [Hid, HEND.out]
            have e : (fun r => if lo ≤ r ∧ r < hi + 1 then (partsVal (lo, hi, fs) r).or (G r) else G r) = fun r => (partsVal (lo, hi, fs) r).or (G r) := by
              funext r
              by_cases h : lo ≤ r ∧ r < hi + 1
              · rw [if_pos h]
              · rw [if_neg h, HOUT.out r (fun h2 => h ⟨h2.1, by omega⟩)]; rfl
            rw [← e]
            exact HM.out.mono (by omega)
          clear HM HT
          go_wp2
          exact ⟨⟨k + 1, by omega, by go_num, HM2, hbw⟩, by simp [intOf]; omega⟩
    · have hge : ¬ (k : Int) < (l.length : Int) := by omega
      have HF : Hid (LMap wr w.heap.size 2000000 (lastG partsVal l)) := by
        have h := HL.out
        rw [List.take_of_length_le (by omega)] at h
        exact h.mono (by omega)
      clear HL
      go_wp2
      go_ret
      exact ⟨_, rfl, HF.out, hbel⟩
end Go.Proofs.YtnjomfmdogkhgaaGreatDoor.prp
end

section
/- A name loosely, over lists of bytes. -/
set_option linter.unusedVariables false
set_option linter.unusedSimpArgs false
namespace Go.Proofs.YtnjomfmdogkhgaaGreatDoor.nam
open Go.RowKit lin

/-- What a byte comes to. -/
def low (c : UInt8) : List UInt8 := if c = 32 ∨ c = 45 ∨ c = 95 then [] else if 65 ≤ c.toNat ∧ c.toNat ≤ 90 then [c + 32] else [c]
def sift (l : List UInt8) : List UInt8 := l.flatMap low
def strip (l : List UInt8) : List UInt8 := if 2 < l.length ∧ l.take 2 = [105, 115] then l.drop 2 else l
def looseL (l : List UInt8) : List UInt8 := strip (sift l)

theorem u8_eq (c : UInt8) (n : Nat) (h : n < 256) : c = UInt8.ofNat n ↔ c.toNat = n := by
  constructor
  · rintro rfl; simp; omega
  · intro e; rw [← e]; simp
theorem low_not (c : UInt8) (h : c.toNat = 32 ∨ c.toNat = 45 ∨ c.toNat = 95) : low c = [] := by
  unfold low
  rw [if_pos]
  rcases h with h | h | h
  · exact .inl ((u8_eq c 32 (by decide)).2 h)
  · exact .inr (.inl ((u8_eq c 45 (by decide)).2 h))
  · exact .inr (.inr ((u8_eq c 95 (by decide)).2 h))
theorem low_ne (c : UInt8) (h : ¬ (c.toNat = 32 ∨ c.toNat = 45 ∨ c.toNat = 95)) : ¬ (c = 32 ∨ c = 45 ∨ c = 95) := by
  rintro (rfl | rfl | rfl) <;> simp at h
theorem low_great (c : UInt8) (h1 : 65 ≤ c.toNat) (h2 : c.toNat ≤ 90) (h : ¬ (c.toNat = 32 ∨ c.toNat = 45 ∨ c.toNat = 95)) : low c = [UInt8.ofNat (c.toNat + 32)] := by
  unfold low
  rw [if_neg (low_ne c h), if_pos ⟨h1, h2⟩]
  congr 1
theorem low_else (c : UInt8) (h1 : ¬ (65 ≤ c.toNat ∧ c.toNat ≤ 90)) (h : ¬ (c.toNat = 32 ∨ c.toNat = 45 ∨ c.toNat = 95)) : low c = [c] := by
  unfold low
  rw [if_neg (low_ne c h), if_neg h1]
theorem sift_snoc (l : List UInt8) (c : UInt8) : sift (l ++ [c]) = sift l ++ low c := by simp [sift]
theorem sift_append (a b : List UInt8) : sift (a ++ b) = sift a ++ sift b := by simp [sift]
theorem sift_len (l : List UInt8) : (sift l).length ≤ l.length := by
  induction l with
  | nil => simp [sift]
  | cons c r ih =>
    have : (low c).length ≤ 1 := by unfold low; (repeat' split) <;> simp
    simp only [sift, List.flatMap_cons, List.length_append, List.length_cons] at *
    omega
theorem strip_len (l : List UInt8) : (strip l).length ≤ l.length := by unfold strip; split <;> simp
theorem looseL_len (l : List UInt8) : (looseL l).length ≤ l.length := Nat.le_trans (strip_len _) (sift_len l)
theorem take_next (s : ByteArray) (k : Nat) (h : k < s.size) : s.data.toList.take (k + 1) = s.data.toList.take k ++ [s[k]'h] := by
  rw [List.take_add_one, List.getElem?_eq_getElem (by simpa using h)]; rfl
theorem strip_two (l : List UInt8) (h : l.length = 2) : strip l = l := by unfold strip; rw [if_neg]; omega
theorem strip_trim (l : List UInt8) (h : l.length ≠ 2) : strip l = Lib.trimPrefix l [105, 115] := by
  unfold strip Lib.trimPrefix Lib.hasPrefix
  by_cases h1 : l.take 2 = [105, 115]
  · have h2 : 2 ≤ l.length := by
      have := congrArg List.length h1
      simp at this
      omega
    rw [if_pos ⟨by omega, h1⟩, if_pos]
    · rfl
    · first
        | (rw [List.isPrefixOf_iff_prefix]; exact ⟨l.drop 2, by rw [← h1, List.take_append_drop]⟩)
        | (simp [List.isPrefixOf]; done)
  · rw [if_neg (fun h => h1 h.2), if_neg]
    intro hp
    apply h1
    rw [List.isPrefixOf_iff_prefix] at hp
    obtain ⟨t, rfl⟩ := hp
    rfl
end Go.Proofs.YtnjomfmdogkhgaaGreatDoor.nam
end

section
/- The file of names: its bytes, its rows. -/
set_option linter.unusedVariables false
namespace Go.Proofs.YtnjomfmdogkhgaaGreatDoor.nam
open lin

def aliasB : ByteArray := ⟨#[35, 32, 107, 105, 110, 100, 32, 59, 32, 115, 104, 111, 114, 116, 32, 110, 97, 109, 101, 32, 59, 32, 108, 111, 110, 103, 32, 110, 97, 109, 101, 10, 112, 114, 32, 59, 32, 103, 99, 32, 59, 32, 71, 101, 110, 101, 114, 97, 108, 95, 67, 97, 116, 101, 103, 111, 114, 121, 10, 112, 114, 32, 59, 32, 115, 99, 32, 59, 32, 83, 99, 114, 105, 112, 116, 10, 103, 99, 32, 59, 32, 67, 32, 59, 32, 79, 116, 104, 101, 114, 10, 103, 99, 32, 59, 32, 67, 99, 32, 59, 32, 67, 111, 110, 116, 114, 111, 108, 10, 103, 99, 32, 59, 32, 67, 102, 32, 59, 32, 70, 111, 114, 109, 97, 116, 10, 103, 99, 32, 59, 32, 67, 110, 32, 59, 32, 85, 110, 97, 115, 115, 105, 103, 110, 101, 100, 10, 103, 99, 32, 59, 32, 76, 32, 59, 32, 76, 101, 116, 116, 101, 114, 10, 103, 99, 32, 59, 32, 76, 108, 32, 59, 32, 76, 111, 119, 101, 114, 99, 97, 115, 101, 95, 76, 101, 116, 116, 101, 114, 10, 103, 99, 32, 59, 32, 76, 111, 32, 59, 32, 79, 116, 104, 101, 114, 95, 76, 101, 116, 116, 101, 114, 10, 103, 99, 32, 59, 32, 76, 116, 32, 59, 32, 84, 105, 116, 108, 101, 99, 97, 115, 101, 95, 76, 101, 116, 116, 101, 114, 10, 103, 99, 32, 59, 32, 76, 117, 32, 59, 32, 85, 112, 112, 101, 114, 99, 97, 115, 101, 95, 76, 101, 116, 116, 101, 114, 10, 103, 99, 32, 59, 32, 77, 32, 59, 32, 77, 97, 114, 107, 10, 103, 99, 32, 59, 32, 77, 99, 32, 59, 32, 83, 112, 97, 99, 105, 110, 103, 95, 77, 97, 114, 107, 10, 103, 99, 32, 59, 32, 77, 110, 32, 59, 32, 78, 111, 110, 115, 112, 97, 99, 105, 110, 103, 95, 77, 97, 114, 107, 10, 103, 99, 32, 59, 32, 78, 32, 59, 32, 78, 117, 109, 98, 101, 114, 10, 103, 99, 32, 59, 32, 78, 100, 32, 59, 32, 68, 101, 99, 105, 109, 97, 108, 95, 78, 117, 109, 98, 101, 114, 10, 103, 99, 32, 59, 32, 78, 108, 32, 59, 32, 76, 101, 116, 116, 101, 114, 95, 78, 117, 109, 98, 101, 114, 10, 103, 99, 32, 59, 32, 78, 111, 32, 59, 32, 79, 116, 104, 101, 114, 95, 78, 117, 109, 98, 101, 114, 10, 103, 99, 32, 59, 32, 80, 32, 59, 32, 80, 117, 110, 99, 116, 117, 97, 116, 105, 111, 110, 10, 103, 99, 32, 59, 32, 80, 99, 32, 59, 32, 67, 111, 110, 110, 101, 99, 116, 111, 114, 95, 80, 117, 110, 99, 116, 117, 97, 116, 105, 111, 110, 10, 103, 99, 32, 59, 32, 80, 100, 32, 59, 32, 68, 97, 115, 104, 95, 80, 117, 110, 99, 116, 117, 97, 116, 105, 111, 110, 10, 103, 99, 32, 59, 32, 80, 101, 32, 59, 32, 67, 108, 111, 115, 101, 95, 80, 117, 110, 99, 116, 117, 97, 116, 105, 111, 110, 10, 103, 99, 32, 59, 32, 80, 102, 32, 59, 32, 70, 105, 110, 97, 108, 95, 80, 117, 110, 99, 116, 117, 97, 116, 105, 111, 110, 10, 103, 99, 32, 59, 32, 80, 105, 32, 59, 32, 73, 110, 105, 116, 105, 97, 108, 95, 80, 117, 110, 99, 116, 117, 97, 116, 105, 111, 110, 10, 103, 99, 32, 59, 32, 80, 111, 32, 59, 32, 79, 116, 104, 101, 114, 95, 80, 117, 110, 99, 116, 117, 97, 116, 105, 111, 110, 10, 103, 99, 32, 59, 32, 80, 115, 32, 59, 32, 79, 112, 101, 110, 95, 80, 117, 110, 99, 116, 117, 97, 116, 105, 111, 110, 10, 103, 99, 32, 59, 32, 83, 32, 59, 32, 83, 121, 109, 98, 111, 108, 10, 103, 99, 32, 59, 32, 83, 99, 32, 59, 32, 67, 117, 114, 114, 101, 110, 99, 121, 95, 83, 121, 109, 98, 111, 108, 10, 103, 99, 32, 59, 32, 83, 107, 32, 59, 32, 77, 111, 100, 105, 102, 105, 101, 114, 95, 83, 121, 109, 98, 111, 108, 10, 103, 99, 32, 59, 32, 83, 109, 32, 59, 32, 77, 97, 116, 104, 95, 83, 121, 109, 98, 111, 108, 10, 103, 99, 32, 59, 32, 83, 111, 32, 59, 32, 79, 116, 104, 101, 114, 95, 83, 121, 109, 98, 111, 108, 10, 103, 99, 32, 59, 32, 90, 32, 59, 32, 83, 101, 112, 97, 114, 97, 116, 111, 114, 10, 103, 99, 32, 59, 32, 90, 108, 32, 59, 32, 76, 105, 110, 101, 95, 83, 101, 112, 97, 114, 97, 116, 111, 114, 10, 103, 99, 32, 59, 32, 90, 112, 32, 59, 32, 80, 97, 114, 97, 103, 114, 97, 112, 104, 95, 83, 101, 112, 97, 114, 97, 116, 111, 114, 10, 103, 99, 32, 59, 32, 90, 115, 32, 59, 32, 83, 112, 97, 99, 101, 95, 83, 101, 112, 97, 114, 97, 116, 111, 114, 10, 115, 99, 32, 59, 32, 67, 121, 114, 108, 32, 59, 32, 67, 121, 114, 105, 108, 108, 105, 99, 10, 115, 99, 32, 59, 32, 68, 101, 118, 97, 32, 59, 32, 68, 101, 118, 97, 110, 97, 103, 97, 114, 105, 10, 115, 99, 32, 59, 32, 71, 114, 101, 107, 32, 59, 32, 71, 114, 101, 101, 107, 10, 115, 99, 32, 59, 32, 72, 97, 110, 103, 32, 59, 32, 72, 97, 110, 103, 117, 108, 10, 115, 99, 32, 59, 32, 72, 97, 110, 105, 32, 59, 32, 72, 97, 110, 10, 115, 99, 32, 59, 32, 72, 101, 98, 114, 32, 59, 32, 72, 101, 98, 114, 101, 119, 10, 115, 99, 32, 59, 32, 72, 105, 114, 97, 32, 59, 32, 72, 105, 114, 97, 103, 97, 110, 97, 10, 115, 99, 32, 59, 32, 75, 97, 110, 97, 32, 59, 32, 75, 97, 116, 97, 107, 97, 110, 97, 10, 115, 99, 32, 59, 32, 76, 97, 116, 110, 32, 59, 32, 76, 97, 116, 105, 110, 10, 115, 99, 32, 59, 32, 90, 122, 122, 122, 32, 59, 32, 85, 110, 107, 110, 111, 119, 110, 10, 98, 105, 32, 59, 32, 65, 110, 121, 32, 59, 32, 65, 110, 121, 10, 98, 105, 32, 59, 32, 65, 83, 67, 73, 73, 32, 59, 32, 65, 83, 67, 73, 73, 10, 98, 105, 32, 59, 32, 65, 108, 112, 104, 97, 32, 59, 32, 65, 108, 112, 104, 97, 98, 101, 116, 105, 99, 10, 98, 105, 32, 59, 32, 76, 111, 119, 101, 114, 32, 59, 32, 76, 111, 119, 101, 114, 99, 97, 115, 101, 10, 98, 105, 32, 59, 32, 85, 112, 112, 101, 114, 32, 59, 32, 85, 112, 112, 101, 114, 99, 97, 115, 101, 10, 98, 105, 32, 59, 32, 115, 112, 97, 99, 101, 32, 59, 32, 87, 104, 105, 116, 101, 95, 83, 112, 97, 99, 101, 10]⟩

/-- A kind, a short name, a long name. -/
abbrev R3 := List UInt8 × List UInt8 × List UInt8
def rowsL : List R3 := [
  ([112, 114], [103, 99], [71, 101, 110, 101, 114, 97, 108, 95, 67, 97, 116, 101, 103, 111, 114, 121]),
  ([112, 114], [115, 99], [83, 99, 114, 105, 112, 116]),
  ([103, 99], [67], [79, 116, 104, 101, 114]),
  ([103, 99], [67, 99], [67, 111, 110, 116, 114, 111, 108]),
  ([103, 99], [67, 102], [70, 111, 114, 109, 97, 116]),
  ([103, 99], [67, 110], [85, 110, 97, 115, 115, 105, 103, 110, 101, 100]),
  ([103, 99], [76], [76, 101, 116, 116, 101, 114]),
  ([103, 99], [76, 108], [76, 111, 119, 101, 114, 99, 97, 115, 101, 95, 76, 101, 116, 116, 101, 114]),
  ([103, 99], [76, 111], [79, 116, 104, 101, 114, 95, 76, 101, 116, 116, 101, 114]),
  ([103, 99], [76, 116], [84, 105, 116, 108, 101, 99, 97, 115, 101, 95, 76, 101, 116, 116, 101, 114]),
  ([103, 99], [76, 117], [85, 112, 112, 101, 114, 99, 97, 115, 101, 95, 76, 101, 116, 116, 101, 114]),
  ([103, 99], [77], [77, 97, 114, 107]),
  ([103, 99], [77, 99], [83, 112, 97, 99, 105, 110, 103, 95, 77, 97, 114, 107]),
  ([103, 99], [77, 110], [78, 111, 110, 115, 112, 97, 99, 105, 110, 103, 95, 77, 97, 114, 107]),
  ([103, 99], [78], [78, 117, 109, 98, 101, 114]),
  ([103, 99], [78, 100], [68, 101, 99, 105, 109, 97, 108, 95, 78, 117, 109, 98, 101, 114]),
  ([103, 99], [78, 108], [76, 101, 116, 116, 101, 114, 95, 78, 117, 109, 98, 101, 114]),
  ([103, 99], [78, 111], [79, 116, 104, 101, 114, 95, 78, 117, 109, 98, 101, 114]),
  ([103, 99], [80], [80, 117, 110, 99, 116, 117, 97, 116, 105, 111, 110]),
  ([103, 99], [80, 99], [67, 111, 110, 110, 101, 99, 116, 111, 114, 95, 80, 117, 110, 99, 116, 117, 97, 116, 105, 111, 110]),
  ([103, 99], [80, 100], [68, 97, 115, 104, 95, 80, 117, 110, 99, 116, 117, 97, 116, 105, 111, 110]),
  ([103, 99], [80, 101], [67, 108, 111, 115, 101, 95, 80, 117, 110, 99, 116, 117, 97, 116, 105, 111, 110]),
  ([103, 99], [80, 102], [70, 105, 110, 97, 108, 95, 80, 117, 110, 99, 116, 117, 97, 116, 105, 111, 110]),
  ([103, 99], [80, 105], [73, 110, 105, 116, 105, 97, 108, 95, 80, 117, 110, 99, 116, 117, 97, 116, 105, 111, 110]),
  ([103, 99], [80, 111], [79, 116, 104, 101, 114, 95, 80, 117, 110, 99, 116, 117, 97, 116, 105, 111, 110]),
  ([103, 99], [80, 115], [79, 112, 101, 110, 95, 80, 117, 110, 99, 116, 117, 97, 116, 105, 111, 110]),
  ([103, 99], [83], [83, 121, 109, 98, 111, 108]),
  ([103, 99], [83, 99], [67, 117, 114, 114, 101, 110, 99, 121, 95, 83, 121, 109, 98, 111, 108]),
  ([103, 99], [83, 107], [77, 111, 100, 105, 102, 105, 101, 114, 95, 83, 121, 109, 98, 111, 108]),
  ([103, 99], [83, 109], [77, 97, 116, 104, 95, 83, 121, 109, 98, 111, 108]),
  ([103, 99], [83, 111], [79, 116, 104, 101, 114, 95, 83, 121, 109, 98, 111, 108]),
  ([103, 99], [90], [83, 101, 112, 97, 114, 97, 116, 111, 114]),
  ([103, 99], [90, 108], [76, 105, 110, 101, 95, 83, 101, 112, 97, 114, 97, 116, 111, 114]),
  ([103, 99], [90, 112], [80, 97, 114, 97, 103, 114, 97, 112, 104, 95, 83, 101, 112, 97, 114, 97, 116, 111, 114]),
  ([103, 99], [90, 115], [83, 112, 97, 99, 101, 95, 83, 101, 112, 97, 114, 97, 116, 111, 114]),
  ([115, 99], [67, 121, 114, 108], [67, 121, 114, 105, 108, 108, 105, 99]),
  ([115, 99], [68, 101, 118, 97], [68, 101, 118, 97, 110, 97, 103, 97, 114, 105]),
  ([115, 99], [71, 114, 101, 107], [71, 114, 101, 101, 107]),
  ([115, 99], [72, 97, 110, 103], [72, 97, 110, 103, 117, 108]),
  ([115, 99], [72, 97, 110, 105], [72, 97, 110]),
  ([115, 99], [72, 101, 98, 114], [72, 101, 98, 114, 101, 119]),
  ([115, 99], [72, 105, 114, 97], [72, 105, 114, 97, 103, 97, 110, 97]),
  ([115, 99], [75, 97, 110, 97], [75, 97, 116, 97, 107, 97, 110, 97]),
  ([115, 99], [76, 97, 116, 110], [76, 97, 116, 105, 110]),
  ([115, 99], [90, 122, 122, 122], [85, 110, 107, 110, 111, 119, 110]),
  ([98, 105], [65, 110, 121], [65, 110, 121]),
  ([98, 105], [65, 83, 67, 73, 73], [65, 83, 67, 73, 73]),
  ([98, 105], [65, 108, 112, 104, 97], [65, 108, 112, 104, 97, 98, 101, 116, 105, 99]),
  ([98, 105], [76, 111, 119, 101, 114], [76, 111, 119, 101, 114, 99, 97, 115, 101]),
  ([98, 105], [85, 112, 112, 101, 114], [85, 112, 112, 101, 114, 99, 97, 115, 101]),
  ([98, 105], [115, 112, 97, 99, 101], [87, 104, 105, 116, 101, 95, 83, 112, 97, 99, 101])]

def rowL (l : List UInt8) : List (List (List UInt8)) := if fieldsL l = [] then [] else [fieldsL l]
set_option maxRecDepth 1000000 in
theorem rows_lit : (cutL 10 aliasB.data.toList).flatMap rowL = rowsL.map (fun r => [r.1, r.2.1, r.2.2]) := by decide +kernel
end Go.Proofs.YtnjomfmdogkhgaaGreatDoor.nam
end

section
/- The keys of names' map: a kind and a name. -/
set_option linter.unusedVariables false
set_option linter.unusedSimpArgs false
namespace Go.Proofs.YtnjomfmdogkhgaaGreatDoor.nam
open Go.Maps Go.RowKit

def ek (x : ByteArray × ByteArray) : Value := .agg #[.string x.1, .string x.2]
def okk (x : ByteArray × ByteArray) : Prop := x.1.size ≤ maxLen ∧ x.2.size ≤ maxLen
theorem types_n : Tryz.prog.types.size = Tryz.prog.types.size - 2 + 2 := by kernel_rfl
theorem key_type : Tryz.prog.keyType 93 = true := by kernel_rfl
theorem cells_name : Tryz.prog.cellsOf 93 = 2 := by kernel_rfl
theorem cells_string : Tryz.prog.cellsOf 9 = 1 := by kernel_rfl
theorem key_reads (x : ByteArray × ByteArray) (h : okk x) : ∃ l, keyOf Tryz.prog 93 (ek x) = some l := by
  have hf : (ek x).formed Tryz.prog 93 = true := by
    simp [ek, Value.formed, Tryz.underlying93]
    exact cells_name.symm
  have hs : ∀ (m : Nat) (s : ByteArray), s.size ≤ maxLen → Tryz.prog.keyLits (m + 1) 9 [.string s] = some [.string s.data.toList] := fun m s hs => by
    simp [Program.keyLits, Tryz.underlying9, hs]
  have hk : ∀ m, Tryz.prog.keyLits (m + 2 + 1) 93 (ek x).cells.toList = some [.string x.1.data.toList, .string x.2.data.toList] := fun m => by
    unfold Program.keyLits
    simp [Tryz.underlying93, cells_name, cells_string, hs _ _ h.1, hs _ _ h.2, ek, Value.cells]
  unfold keyOf
  rw [Tryz.underlying93]
  simp only [key_type, hf, Bool.and_self, if_true]
  rw [types_n, hk]
  exact ⟨_, rfl⟩
theorem key_law : WideMaps.KeyLaw Tryz.prog 93 := deep_law_laid (by kernel_rfl) (m := 3) (by omega) (of_decide_eq_true (by kernel_rfl)) (by kernel_rfl) (by rw [Tryz.underlying93])
theorem keyE : KeyE Tryz.prog 93 ek okk where
  keyed := Keyed.of_law key_law
  reads := key_reads
  inj := fun x y h => by
    unfold ek at h
    simp only [Value.agg.injEq, Array.mk.injEq, List.cons.injEq, Value.string.injEq] at h
    exact Prod.ext h.1 h.2.1
end Go.Proofs.YtnjomfmdogkhgaaGreatDoor.nam
end

section
/- The file of names as a table. -/
set_option linter.unusedVariables false
set_option linter.unusedSimpArgs false
namespace Go.Proofs.YtnjomfmdogkhgaaGreatDoor.nam
open Go.RowKit lin

/-- A row says this name, loosely, of that kind; the first one that does. -/
def hit (x : List UInt8 × List UInt8) (r : R3) : Bool := r.1 == x.1 && (looseL r.2.1 == x.2 || looseL r.2.2 == x.2)
def lookL (x : List UInt8 × List UInt8) : Option R3 := rowsL.find? (hit x)
/-- Both names as a value. -/
def al (r : R3) : Value := .agg #[.string (BA r.2.1), .string (BA r.2.2)]
def tab : List R3 → ByteArray × ByteArray → Option Value
  | [] => fun _ => none
  | r :: rest => upd (upd (tab rest) (BA r.1, BA (looseL r.2.1)) (al r)) (BA r.1, BA (looseL r.2.2)) (al r)
theorem BA_inj (a : ByteArray) (l : List UInt8) : a = BA l ↔ a.data.toList = l := by
  constructor
  · rintro rfl; rfl
  · intro e; rw [← e, BA_list]
theorem tab_find (L : List R3) (x : ByteArray × ByteArray) : tab L x = (L.find? (hit (x.1.data.toList, x.2.data.toList))).map al := by
  induction L with
  | nil => rfl
  | cons r rest ih =>
    have h1 : ∀ l, (x = (BA r.1, BA l)) ↔ (x.1.data.toList = r.1 ∧ x.2.data.toList = l) := fun l => by
      rw [Prod.ext_iff, ← BA_inj, ← BA_inj]
    unfold tab upd
    rw [List.find?_cons]
    cases hh : hit (x.1.data.toList, x.2.data.toList) r with
    | true =>
      unfold hit at hh
      simp only [Bool.and_eq_true, Bool.or_eq_true, beq_iff_eq] at hh
      simp only [Option.map_some]
      rcases hh.2 with h2 | h2
      · by_cases h3 : x = (BA r.1, BA (looseL r.2.2))
        · rw [if_pos h3]
        · rw [if_neg h3, if_pos ((h1 _).2 ⟨hh.1.symm, h2.symm⟩)]
      · rw [if_pos ((h1 _).2 ⟨hh.1.symm, h2.symm⟩)]
    | false =>
      have hn : ∀ l, l = looseL r.2.1 ∨ l = looseL r.2.2 → x ≠ (BA r.1, BA l) := fun l hl e => by
        obtain ⟨e1, e2⟩ := (h1 l).1 e
        unfold hit at hh
        rw [e1, e2] at hh
        rcases hl with rfl | rfl <;> simp at hh
      rw [if_neg (hn _ (.inr rfl)), if_neg (hn _ (.inl rfl))]
      exact ih
theorem tab_look (x : ByteArray × ByteArray) : tab rowsL x = (lookL (x.1.data.toList, x.2.data.toList)).map al := tab_find rowsL x

theorem rows_at (L : List (List UInt8)) : rowsOf (L.map BA) = (L.flatMap rowL).map (fun r => r.map BA) := by
  induction L with
  | nil => rfl
  | cons l rest ih =>
    unfold rowsOf at ih ⊢
    rw [List.map_cons, List.flatMap_cons, ih, List.flatMap_cons, List.map_append]
    congr 1
    unfold rowOf rowL
    rw [fieldsV_list, BA_data, List.length_map]
    by_cases h : fieldsL l = []
    · rw [if_pos h, if_pos (by rw [h]; rfl)]; rfl
    · rw [if_neg h, if_neg (fun e => h (List.eq_nil_of_length_eq_zero e))]; rfl
theorem rows_eq : rowsOf (cutV aliasB 10) = rowsL.map (fun r => [BA r.1, BA r.2.1, BA r.2.2]) := by
  have h := cutV_list aliasB 10
  rw [show ((10 : UInt8).toNat : Int) = 10 from rfl] at h
  rw [h, rows_at, rows_lit, List.map_map]
  rfl
theorem rows_n : rowsL.length = 51 := by decide +kernel
theorem rows_small : ∀ r ∈ rowsL, r.1.length ≤ 30 ∧ r.2.1.length ≤ 30 ∧ r.2.2.length ≤ 30 := by decide +kernel
theorem alias_n : aliasB.size ≤ 100000 := by decide +kernel

set_option maxRecDepth 1000000 in
theorem aliases_any (w : World) : Calls Tryz.prog 88 #[] w fun e w' => e = .returned (.string aliasB) ∧ w' = w := by
  go_enter Tryz.func88, Tryz.ntmps88
  go_wp2
  go_ret
  exact ⟨rfl, rfl⟩
end Go.Proofs.YtnjomfmdogkhgaaGreatDoor.nam
end

section
/- What the document's Rows answers of any text: the same as lines.Rows. -/
set_option linter.unusedVariables false
set_option linter.unusedSimpArgs false
namespace Go.Proofs.YtnjomfmdogkhgaaGreatDoor.lin
open Go.RowKit

set_option maxHeartbeats 4000000 in
set_option maxRecDepth 100000 in
theorem rrows_any (s : ByteArray) (w : World) (hs : s.size ≤ 1073741824) :
    Calls Tryz.prog 119 #[.string s] w fun e w' => ∃ v, e = .returned v ∧ RowsAt w' w.heap.size v (rowsOf (cutV s 10)) ∧ Below w.heap.size w w' := by
  obtain ⟨i0, hi, hz0, hy1, hz2⟩ := info_parts infoStrs
  have RC := rcut_any s 10 w (by omega)
  go_enter Tryz.func119, Tryz.ntmps119
  go_wp2_with fail
  refine RC.mono ?_
  rintro e w1 ⟨v, rfl, hown, b1⟩
  obtain ⟨a, c, rfl, hrow⟩ := strRow hown
  have hpos : 0 < (cutV s ((10 : Nat) : Int)).length := (cutV_head s 10).2
  obtain ⟨g, rfl, _, hg, _, _, _, hcell⟩ := hrow hpos
  have HC : Hid (∀ (i : Nat) (x : ByteArray), (cutV s 10)[i]? = some x → w1.cell? ⟨g, i, none⟩ = some (.string x)) := hcell
  have HN : Hid (∀ i, i < (cutV s 10).length → ∃ x, (cutV s 10)[i]? = some x ∧ (cutV s 10).take (i + 1) = (cutV s 10).take i ++ [x]) := fun i h => ⟨_, List.getElem?_eq_getElem h, by rw [List.take_add_one, List.getElem?_eq_getElem h]; rfl⟩
  have HSZ : Hid (∀ x ∈ cutV s 10, x.size ≤ s.size) := fun x hx => cuts_size _ _ _ _ _ x hx
  have hcl := cutV_len2 s 10
  have e10 : cutV s ((10 : Nat) : Int) = cutV s 10 := rfl
  rw [e10]
  clear e10 hrow hcell hpos hown RC
  generalize hcs : cutV s 10 = cs at *
  have HCS : Hid (cutV s 10 = cs) := hcs
  clear hcs
  go_wp2
  go_loopw [3, 10] (fun v i wr => ∃ k : Nat, k ≤ cs.length ∧ i = .int .i64 k ∧ Hid (RowsAt wr w1.heap.size v (rowsOf (cs.take k))) ∧ Below w1.heap.size w1 wr) (fun _ i _ => cs.length - (RowKit.intOf i).toNat)
  case atStart => exact ⟨0, Nat.zero_le _, rfl, RowsAt.nil _ _, Below.refl _ _⟩
  case round =>
    obtain ⟨k, hk, rfl, HR, hbel⟩ := hrel
    by_cases hlt : k < cs.length
    · obtain ⟨x, hx, htk⟩ := HN.out k hlt
      have hlt' : (k : Int) < (cs.length : Int) := by omega
      have cx : wr.cell? ⟨g, k, none⟩ = some (.string x) := (hbel.cell (p := ⟨g, k, none⟩) hg).trans (HC.out k x hx)
      have hxs := HSZ.out x (List.mem_of_getElem? hx)
      have RF := rfields_any x wr (by omega)
      have hlk : (cs.take k).length = k := by rw [List.length_take]; omega
      have hrl := rowsOf_len (cs.take k)
      rw [hlk] at hrl
      have HLR : Hid (rowsOf (cs.take (k + 1)) = rowsOf (cs.take k) ++ rowOf x) := by rw [Hid, htk, rowsOf_snoc]
      have hbs := hbel.size
      clear htk hx hlk
      go_wp2_with fail
      refine RF.mono ?_
      rintro e w2 ⟨fv, rfl, hown, b2⟩
      clear RF cx
      have b12 := hbel.trans (b2.mono hbs)
      have hs2 := b2.size
      have HR2 : Hid (RowsAt w2 w1.heap.size u3 (rowsOf (cs.take k))) := HR.out.kept b2
      cases hfs : fieldsV x with
      | nil =>
        rw [hfs] at hown
        obtain ⟨sa, sc, rfl⟩ := own_slice hown
        have R2 : Hid (RowsAt w2 w1.heap.size u3 (rowsOf (cs.take (k + 1)))) := by
          rw [Hid, HLR.out, show rowOf x = [] from by unfold rowOf; rw [hfs]; rfl, List.append_nil]; exact HR2.out
        clear hown HR HR2
        go_wp2
        go_roundw
        case rel => exact ⟨k + 1, by omega, by go_num, R2, b12⟩
        case measure => simp [RowKit.intOf]; omega
      | cons f fs =>
        rw [hfs] at hown
        have hF : FAt w2 w1.heap.size fv (f :: fs) := by
          obtain ⟨fa, fc, rfl, hfrow⟩ := strRow hown
          obtain ⟨g2, rfl, hg1, hg2, hfc1, hfc2, ⟨cur, hcur, hcc⟩, hfcell⟩ := hfrow (by simp)
          exact ⟨g2, 0, fc, cur, rfl, by omega, hcur, fun j hj => by
            rw [Nat.zero_add, hcc j _ (List.getElem?_eq_getElem hj), List.getD_eq_getElem?_getD, List.getElem?_eq_getElem hj]; rfl⟩
        obtain ⟨L, hL, ho, hf⟩ := HR2.out
        have hLl : L.length ≤ k := by
          have := congrArg List.length hL
          rw [List.length_map] at this
          omega
        have HW : Hid (∀ j, u3.ownBlock = some j → w1.heap.size ≤ j) := fun j e => (ho.lt _ e).1
        have HF : Hid (FAt w2 w1.heap.size fv (f :: fs)) := hF
        have HFF : Hid (∀ q ∈ L, FAt w2 w1.heap.size q.1 q.2) := hf
        have HL : Hid (L.map (·.2) = rowsOf (cs.take k)) := hL
        have HO : Hid (w2.ownsRow w1.heap.size 45 1 u3 L.length (L.map (·.1))) := ho
        have HRX : Hid (rowOf x = [f :: fs]) := by unfold Hid rowOf; rw [hfs]; rfl
        obtain ⟨ua, uc, rfl⟩ := own_slice ho
        obtain ⟨fg, fo, fc', fcur, rfl, _⟩ := hF
        have t0 : (0 : Int) < (fs.length : Int) + 1 := by omega
        clear hown HR HR2 hL ho hf hrl hfs
        go_wp2_with (at_builtin; refine wpList_append_own _ rfl _ _ 126 rfl w1.heap.size 45 i0 (.slice none 0 0) 1 24 Tryz.underlying126 hi hz0 hy1 hz2 rfl (by decide) _ _ _ rfl (HO.out.alloc _) ⟨w2.heap.size, 0, none⟩ 1 1 [.slice (some ⟨fg, fo, none⟩) (fs.length + 1) fc'] rfl rfl (cell_one_new _ _ _) (by simp [Value.oneCell']) (by unfold maxLen; omega) (by omega) (by simp; omega) ?_)
        intro v' w4 hown4 hgrow _
        have al : ∀ x, Below w2.heap.size w2 (w2.alloc x) := fun x => (Below.refl _ w2).alloc (Nat.le_refl _) _
        have R2 : Hid (RowsAt w4 w1.heap.size v' (rowsOf (cs.take (k + 1)))) := by
          rw [Hid, HLR.out, HRX.out, ← HL.out]
          exact RowsAt.push (fun q hq => (HFF.out q hq).kept (al _)) (HO.out.alloc _) (HF.out.kept (al _)) hgrow hown4
        have R3 : Below w1.heap.size w1 w4 := (b12.alloc b12.size _).grown hgrow (by simp; omega) HW.out
        clear hown4 hgrow HO HFF HF HLR HRX HL al
        go_wp2
        go_roundw
        case rel => exact ⟨k + 1, by omega, by go_num, R2, R3⟩
        case measure => simp [RowKit.intOf]; omega
    · obtain rfl : k = cs.length := by omega
      rw [List.take_length] at HR
      have b3 := b1.trans (hbel.mono b1.size)
      have HRL : Hid (RowsAt wr w.heap.size u3 (rowsOf cs)) := HR.out.lower b1.size
      go_wp2
      go_ret
      exact ⟨u3, rfl, by rw [HCS.out]; exact HRL.out, b3⟩
end Go.Proofs.YtnjomfmdogkhgaaGreatDoor.lin
end

section
/- The file's rows as they lie in memory. -/
set_option linter.unusedVariables false
set_option linter.unusedSimpArgs false
namespace Go.Proofs.YtnjomfmdogkhgaaGreatDoor.nam
open Go.RowKit lin

/-- A row: a slice of three strings. -/
def RowAt (w : World) (base : Nat) (x : Value) (r : R3) : Prop :=
  ∃ fg fo fc, x = .slice (some ⟨fg, fo, none⟩) 3 fc ∧ base ≤ fg ∧ fg < w.heap.size ∧ w.cell? ⟨fg, fo, none⟩ = some (.string (BA r.1)) ∧ w.cell? ⟨fg, fo + 1, none⟩ = some (.string (BA r.2.1)) ∧ w.cell? ⟨fg, fo + 1 + 1, none⟩ = some (.string (BA r.2.2))
theorem RowAt.of_cells {w w' : World} {base : Nat} {x : Value} {r : R3} (h : RowAt w base x r) (hs : w.heap.size ≤ w'.heap.size) (hc : ∀ g o, base ≤ g → g < w.heap.size → w'.cell? ⟨g, o, none⟩ = w.cell? ⟨g, o, none⟩) : RowAt w' base x r := by
  obtain ⟨fg, fo, fc, rfl, h1, h2, h3, h4, h5⟩ := h
  exact ⟨fg, fo, fc, rfl, h1, by omega, (hc _ _ h1 h2).trans h3, (hc _ _ h1 h2).trans h4, (hc _ _ h1 h2).trans h5⟩

/-- All rows. -/
structure FileAt (w : World) (base : Nat) (v : Value) (g cap : Nat) (vs : List Value) : Prop where
  val : v = .slice (some ⟨g, 0, none⟩) vs.length cap
  len : vs.length = rowsL.length
  low : base ≤ g
  lt : g < w.heap.size
  cell : ∀ i (h : i < vs.length), w.cell? ⟨g, 0 + i, none⟩ = some vs[i]
  row : ∀ (i : Nat) (x : Value) (r : R3), vs[i]? = some x → rowsL[i]? = some r → RowAt w base x r

theorem file_at {w : World} {base : Nat} {v : Value} (h : RowsAt w base v (rowsOf (cutV aliasB 10))) : ∃ g cap vs, FileAt w base v g cap vs := by
  rw [rows_eq] at h
  obtain ⟨L, hL, ho, hf⟩ := h
  have hlen : L.length = rowsL.length := by have := congrArg List.length hL; simpa using this
  have hpos : 0 < L.length := by rw [hlen, rows_n]; decide
  rcases ho.2 with hn | ⟨g, cap, cur, hv, hg, hgg, h3, h4, h5, h6⟩
  · omega
  · have hvl : (L.map (·.1)).length = L.length := List.length_map ..
    refine ⟨g, cap, L.map (·.1), ⟨by rw [hvl]; exact hv, by rw [hvl]; exact hlen, hg, (Array.getElem?_eq_some_iff.1 hgg).1, fun i hi => ?_, fun i x r hx hr => ?_⟩⟩
    · rw [Nat.zero_add, cell_of_row w g i cur _ _ hgg, ← Array.getElem?_toList, ← List.getElem?_take_of_lt (show i < L.length * 1 by rw [hvl] at hi; omega), h6, List.getElem?_eq_getElem hi]
    · rw [List.getElem?_map] at hx
      cases hq : L[i]? with
      | none => rw [hq] at hx; cases hx
      | some q =>
        rw [hq] at hx
        cases hx
        have h7 : q.2 = [BA r.1, BA r.2.1, BA r.2.2] := by
          have := congrArg (fun l => l[i]?) hL
          simp only [List.getElem?_map, hq, hr, Option.map_some, Option.some.injEq] at this
          exact this
        obtain ⟨fg, fo, fc, fcur, hfv, hfg, hfgg, hfc⟩ := hf q (List.mem_of_getElem? hq)
        rw [h7] at hfv hfc
        refine ⟨fg, fo, fc, hfv, hfg, (Array.getElem?_eq_some_iff.1 hfgg).1, ?_, ?_, ?_⟩
        · rw [cell_of_row w fg fo fcur _ _ hfgg]; exact hfc 0 (by simp)
        · rw [cell_of_row w fg (fo + 1) fcur _ _ hfgg]; exact hfc 1 (by simp)
        · rw [cell_of_row w fg (fo + 1 + 1) fcur _ _ hfgg]; exact hfc 2 (by simp)
end Go.Proofs.YtnjomfmdogkhgaaGreatDoor.nam
end

section
/- slices.Backward over rows of strings: its closure gives them with their places, from the last one on. -/
set_option linter.unusedVariables false
set_option linter.unusedSimpArgs false
namespace Go.Proofs.YtnjomfmdogkhgaaGreatDoor.nam
open Go.RowKit Go.Shelf lin
attribute [local go_sem] Oper.semAt_some

abbrev Elt := Nat × Value
def encB (x : Elt) : Array Value := #[.int .i64 (x.1 : Int), x.2]
/-- Elements with their places, the last one first. -/
def backs (vs : List Value) : List Elt := (vs.zipIdx.map fun p => (p.2, p.1)).reverse
theorem backs_snoc (vs : List Value) (v : Value) : backs (vs ++ [v]) = (vs.length, v) :: backs vs := by
  unfold backs
  rw [List.zipIdx_append]
  simp
theorem backs_take (vs : List Value) (k : Nat) (h : k < vs.length) : backs (vs.take (k + 1)) = (k, vs[k]) :: backs (vs.take k) := by
  rw [List.take_add_one, List.getElem?_eq_getElem h]
  show backs (vs.take k ++ [vs[k]]) = _
  rw [backs_snoc, List.length_take]
  congr 2
  omega

/-- In block c lies the slice of values vs, whose cells lie in block g. -/
structure Rev (W : World) (c g off cap : Nat) (vs : List Value) : Prop where
  box : Boxed W c 126 (.slice (some ⟨g, off, none⟩) vs.length cap)
  cell : ∀ i (h : i < vs.length), W.cell? ⟨g, off + i, none⟩ = some vs[i]

theorem cell_keep {lo hi : Nat} {A B : World} (h : Keep lo hi A B) {g o : Nat} (h1 : lo ≤ g) (h2 : g < hi) : B.cell? ⟨g, o, none⟩ = A.cell? ⟨g, o, none⟩ := by
  unfold World.cell?
  rw [h g h1 h2]

theorem Backward_any (a : Option Addr) (n c : Nat) (w : World) :
    Calls Tryz.prog 86 #[.slice a n c] w fun e w' => e = .returned (.func (.func 123) #[] #[.pointer (some ⟨w.heap.size, 0, none⟩)]) ∧ w' = w.alloc (.cells #[.slice a n c] 126) := by
  go_enter Tryz.func86, Tryz.ntmps86
  go_wp2
  go_ret
  exact ⟨rfl, rfl⟩

set_option maxHeartbeats 1000000 in
theorem back_gives (n c g off cap lo : Nat) (vs : List Value) (w : World) (hl : vs.length ≤ 1099511627776) (hr : Rev w c g off cap vs) (h1 : lo ≤ c) (h2 : lo ≤ g) (hsl : ∀ v ∈ vs, ∃ a m k, v = .slice a m k) :
    Gives n Tryz.prog 123 #[.pointer (some ⟨c, 0, none⟩)] encB (backs vs) c lo w.heap.size w := by
  intro l J Jx W hW hJ hY h0
  have hc := hr.box.lt
  have hrW : Rev W c g off cap vs := ⟨(hW.block c hc).trans hr.box, fun i h => (hW.cell (p := ⟨g, off + i, none⟩) (World.block_lt_of_cell? w _ (hr.cell i h))).trans (hr.cell i h)⟩
  refine callsIn_of_wp Tryz.func123 rfl trivial ?_ rfl
  simp only [Tryz.ntmps123, List.size_toArray, List.length_cons, List.length_nil, Nat.reduceAdd, Nat.reduceSub, Array.replicate_succ, Array.replicate_zero, List.push_toArray, List.append_toArray, List.nil_append, List.cons_append]
  have c1 := hrW.box.cell
  have wl : IntKind.i64.wrap ((vs.length : Int) - 1) = (vs.length : Int) - 1 := by rw [IntKind.wrap_i64]; omega
  gi_wp2
  clear c1
  gi_loopg [3] vs.length (fun k v wr => ∃ (pre : List Elt), k ≤ vs.length ∧ v = .int .i64 ((k : Int) - 1) ∧ Hid (pre ++ backs (vs.take k) = backs vs) ∧ Rev wr c g off cap vs ∧ J pre wr)
  case atStart => exact ⟨[], Nat.le_refl _, rfl, by rw [Hid, List.take_of_length_le (Nat.le_refl _)]; rfl, hrW, h0⟩
  case round =>
    obtain ⟨pre, hk, rfl, HX, hcr, hj⟩ := hrel
    cases gk with
    | zero =>
      have HE : pre = backs vs := by have := HX.out; simpa [backs] using this
      subst HE
      gi_wp2
      go_end0
      exact ⟨⟨_, rfl⟩, .inl hj⟩
    | succ k =>
      have hkl : k < vs.length := by omega
      have e0 : ((k + 1 : Nat) : Int) - 1 = (k : Int) := by omega
      have hkl' : (k : Int) < (vs.length : Int) := by omega
      have HX2 : backs vs = pre ++ (k, vs[k]) :: backs (vs.take k) := by rw [← HX.out, backs_take vs k hkl]
      obtain ⟨fn, tmps, assign, body, hy, hR⟩ := hY pre (k, vs[k]) _ wr HX2 hj
      have HX3 : Hid ((pre ++ [(k, vs[k])]) ++ backs (vs.take k) = backs vs) := by rw [Hid, HX2]; simp
      clear HX HX2
      have c1 := hcr.box.cell
      have c2 := hcr.cell k hkl
      obtain ⟨va, vm, vk, hv⟩ := hsl vs[k] (List.getElem_mem hkl)
      have wk : IntKind.i64.wrap ((k : Int) - 1) = (k : Int) - 1 := by rw [IntKind.wrap_i64]; omega
      rw [e0]
      simp only [encB] at hy
      generalize vs[k] = x at *
      subst hv
      gi_wp2
      refine ⟨wide_depth _, hR.mono ?_⟩
      rintro e W3 (⟨rfl, hJ3, hk3⟩ | ⟨rfl, hJx3⟩)
      · have hc3 : Rev W3 c g off cap vs := ⟨(hk3 c h1 hc).trans hcr.box, fun i h => (cell_keep hk3 h2 (World.block_lt_of_cell? w _ (hr.cell i h))).trans (hcr.cell i h)⟩
        gi_wp2
        gi_roundg k
        case measure => omega
        case rel => exact ⟨_, by omega, rfl, HX3, hc3, hJ3⟩
      · gi_wp2
        refine bodyPost_ret (results_none rfl _ _ _) rfl ?_
        exact ⟨⟨_, rfl⟩, .inr ⟨_, hJx3⟩⟩
end Go.Proofs.YtnjomfmdogkhgaaGreatDoor.nam
end
