/- Texts that the proof leans on, one behind the other. -/
import Derived.Test.YtlidgjkipbijlaaGreatDoorBdNrm1
import Derived.OwnWalk

section
/- norm.Items: NFD. -/
set_option linter.unusedVariables false
set_option linter.unusedSimpArgs false
namespace Go.Proofs.YtlidgjkipbijlaaGreatDoor.nrm
open Go.Shelf Go.RowKit Go.Lib Go.Sort Go.Proofs
open Go.Proofs.YtlidgjkipbijlaaGreatDoor.prp Go.Proofs.YtlidgjkipbijlaaGreatDoor.nfd Go.Proofs.YtlidgjkipbijlaaGreatDoor.lin Go.Proofs.YtlidgjkipbijlaaGreatDoor.dcp

theorem com_pos : ∀ x ∈ comL, 0 ≤ num.rd x := by decide +kernel
theorem ccc_nonneg (r : Int) : 0 ≤ ccc r := by
  show 0 ≤ iF comL r
  rw [iF_first comL com_apart r]
  cases h : firstR comL r with
  | none => exact Int.le_refl _
  | some x => exact com_pos x (List.mem_of_find?_eq_some h)
/-- NFD of items. -/
def nfdI (l : List nfd.I) : List nfd.I := ordL kI (apL l)
/-- Where the loop stands: from fr on nothing has been put in order, and no class is 0 from there to k. -/
structure ItS (w : World) (B g n cap : Nat) (Lp : List nfd.I) (fr k : Nat) (W : World) : Prop where
  opn : nfd.Open kI (Lp.take fr)
  pos : ∀ x ∈ (Lp.drop fr).take (k - fr), 0 < kI x
  own : Own3 W B (.slice (some ⟨g, 0, none⟩) n cap) (ordL kI (Lp.take fr) ++ Lp.drop fr)
  low : Below w.heap.size w W
theorem ItS.get {w : World} {B g n cap : Nat} {Lp : List nfd.I} {fr k : Nat} {W : World} (h : ItS w B g n cap Lp fr k W) (hn : Lp.length = n) (hf : fr ≤ k) (hk : k < n) : ∃ r s e, Lp[k]? = some (r, s, e) ∧ W.cell? ⟨g, k * 3, none⟩ = some (.int .i64 r) ∧ W.cell? ⟨g, k * 3 + 1, none⟩ = some (.int .i64 s) ∧ W.cell? ⟨g, k * 3 + 2, none⟩ = some (.int .i64 e) := by
  obtain ⟨⟨r, s, e⟩, hx⟩ : ∃ x, Lp[k]? = some x := ⟨_, List.getElem?_eq_getElem (by omega)⟩
  have hlen : (ordL kI (Lp.take fr)).length = fr := by rw [len_ordL, List.length_take]; omega
  have hy : (ordL kI (Lp.take fr) ++ Lp.drop fr)[k]? = some (r, s, e) := by
    rw [List.getElem?_append_right (by omega), hlen, List.getElem?_drop, show fr + (k - fr) = k by omega]
    exact hx
  obtain ⟨a, c, e1, hv⟩ := h.own.iv
  obtain ⟨b, o, rfl, hc⟩ := hv (by have := (List.getElem?_eq_some_iff.1 hy).1; omega)
  cases e1
  obtain ⟨c1, c2, c3⟩ := hc k _ hy
  rw [Nat.zero_add] at c1 c2 c3
  exact ⟨r, s, e, hx, c1, c2, c3⟩
theorem ItS.below {w : World} {B g n cap : Nat} {Lp : List nfd.I} {fr k : Nat} {W W' : World} (h : ItS w B g n cap Lp fr k W) (hb : Below W.heap.size W W') : ItS w B g n cap Lp fr k W' := ⟨h.opn, h.pos, h.own.below hb, h.low.trans (hb.mono h.low.size)⟩
theorem seg_snoc {Lp : List nfd.I} {fr k : Nat} {x : nfd.I} (h : fr ≤ k) (hx : Lp[k]? = some x) : (Lp.drop fr).take (k + 1 - fr) = (Lp.drop fr).take (k - fr) ++ [x] := by
  rw [show k + 1 - fr = k - fr + 1 by omega, List.take_add_one, List.getElem?_drop, show fr + (k - fr) = k by omega, hx]
  rfl
/-- One more, of a class above 0. -/
theorem ItS.on {w : World} {B g n cap : Nat} {Lp : List nfd.I} {fr k : Nat} {W : World} {x : nfd.I} (h : ItS w B g n cap Lp fr k W) (hf : fr ≤ k) (hx : Lp[k]? = some x) (hp : 0 < kI x) : ItS w B g n cap Lp fr (k + 1) W := by
  refine ⟨h.opn, fun y hy => ?_, h.own, h.low⟩
  rw [seg_snoc hf hx] at hy
  rcases List.mem_append.1 hy with hy | hy
  · exact h.pos y hy
  · simp at hy; subst hy; exact hp
theorem take_seg {Lp : List nfd.I} {fr k : Nat} (h : fr ≤ k) : Lp.take k = Lp.take fr ++ (Lp.drop fr).take (k - fr) := by
  have : k = fr + (k - fr) := by omega
  conv => lhs; rw [this]
  rw [List.take_add]
theorem drop_seg {Lp : List nfd.I} {fr k : Nat} (h : fr ≤ k) : Lp.drop fr = (Lp.drop fr).take (k - fr) ++ Lp.drop k := by
  have e : (Lp.drop fr).drop (k - fr) = Lp.drop k := by rw [List.drop_drop]; congr 1; omega
  rw [← e, List.take_append_drop]
/-- One more, of class 0: what stood ahead of it has been sorted. -/
theorem ItS.cut {w : World} {B g n cap : Nat} {Lp M : List nfd.I} {fr k : Nat} {W W' : World} {x : nfd.I} (h : ItS w B g n cap Lp fr k W) (hf : fr ≤ k) (hx : Lp[k]? = some x) (hz : kI x = 0) (h1 : Srt kI M) (h2 : FE kI ((Lp.drop fr).take (k - fr)) M)
    (ho : Own3 W' B (.slice (some ⟨g, 0, none⟩) n cap) (ordL kI (Lp.take fr) ++ (M ++ Lp.drop k))) (hb : Below w.heap.size w W') : ItS w B g n cap Lp (k + 1) (k + 1) W' := by
  have hk : k < Lp.length := (List.getElem?_eq_some_iff.1 hx).1
  have hd : Lp.drop k = x :: Lp.drop (k + 1) := by rw [List.drop_eq_getElem_cons hk, (List.getElem?_eq_some_iff.1 hx).2]
  have ht : Lp.take (k + 1) = (Lp.take fr ++ (Lp.drop fr).take (k - fr)) ++ [x] := by rw [← take_seg hf, List.take_succ_eq_append_getElem hk, (List.getElem?_eq_some_iff.1 hx).2]
  refine ⟨.inr ⟨_, x, ht, by omega⟩, fun y hy => by rw [Nat.sub_self] at hy; simp at hy, ?_, hb⟩
  rw [ht, ordL_zero kI _ x (by omega), open_run kI _ _ M h.opn h.pos h1 h2]
  rw [hd] at ho
  simpa using ho
theorem ItS.fin {w : World} {B g n cap : Nat} {Lp M : List nfd.I} {fr : Nat} {W W' : World} (h : ItS w B g n cap Lp fr n W) (hn : Lp.length = n) (hf : fr ≤ n) (h1 : Srt kI M) (h2 : FE kI (Lp.drop fr) M)
    (ho : Own3 W' B (.slice (some ⟨g, 0, none⟩) n cap) (ordL kI (Lp.take fr) ++ M)) : Own3 W' B (.slice (some ⟨g, 0, none⟩) n cap) (ordL kI Lp) := by
  have e : (Lp.drop fr).take (n - fr) = Lp.drop fr := List.take_of_length_le (by simp; omega)
  have := open_run kI (Lp.take fr) (Lp.drop fr) M h.opn (by have := h.pos; rw [e] at this; exact this) h1 h2
  rw [List.take_append_drop] at this
  rw [this]
  exact ho
theorem srt_nil : Srt kI [] := List.Pairwise.nil
set_option maxHeartbeats 4000000 in
set_option maxRecDepth 1000000 in
theorem items_any (t : Nat) (v : Value) (l : List nfd.I) (w : World) (hT : Tabs w t) (hv : IVI w v l) (hok : ∀ x ∈ l, okI x.1) (hl : l.length ≤ 100000) :
    Calls Tryz.prog 50 #[.pointer (some ⟨t, 0, none⟩), v] w fun e w' => ∃ v, e = .returned v ∧ Own3 w' w.heap.size v (nfdI l) ∧ Below w.heap.size w w' := by
  have C := apart_any t v l w hT hv hok hl
  have hlen := apL_len l
  have HT : Hid (Tabs w t) := hT
  have HND : Hid (nfdI l = ordL kI (apL l)) := rfl
  obtain ⟨va, vc, rfl, _⟩ := hv
  rw [HND.out]
  clear hT hok HND
  generalize apL l = Lp at *
  have hn9 : Lp.length ≤ 900000 := by omega
  generalize l.length = ll at *
  obtain ⟨n, hn⟩ : ∃ n, Lp.length = n := ⟨_, rfl⟩
  clear hlen
  go_enter Tryz.func50, Tryz.ntmps50
  go_wp2_with fail
  refine C.mono ?_
  rintro e w1 ⟨v1, rfl, ho, b1⟩
  clear C
  rcases Nat.eq_zero_or_pos n with h0 | h0
  · subst h0
    have hLp : Lp = [] := List.eq_nil_of_length_eq_zero hn
    subst hLp
    obtain ⟨ya, yc, hy⟩ := own_slice ho
    have HO : Hid (Own3 w1 w.heap.size v1 (ordL kI [])) := ho
    subst hy
    simp only [List.length_nil] at HO ⊢
    have HB : Hid (Below w.heap.size w w1) := b1
    clear ho b1 hn
    go_wp2
    refine wp_loop_rounds 1 ?_
    rw [rounds_succ]
    go_wp2_with fail
    refine (order_none t ya yc w1).mono ?_
    rintro e w2 ⟨rfl, b2⟩
    have R1 : Hid (Own3 w2 w.heap.size (.slice ya 0 yc) (ordL kI [])) := HO.out.below b2
    have R2 : Hid (Below w.heap.size w w2) := HB.out.trans (b2.mono HB.out.size)
    clear b2
    go_wp2
    go_ret
    exact ⟨_, rfl, R1.out, R2.out⟩
  · obtain ⟨g, cap, rfl, hc, hm, hB, hgl, _⟩ := ho.some (by omega)
    rw [hn] at hc ⊢
    have HI : Hid (ItS w w.heap.size g n cap Lp 0 0 w1) := by
      refine ⟨.inl rfl, fun x hx => by simp at hx, ?_, b1⟩
      rw [List.take_zero, List.drop_zero]
      rw [hn] at ho
      exact ho
    have HN : Hid (Lp.length = n) := hn
    have hnx : n ≤ 900000 := by omega
    have hb1 := b1.size
    unfold maxLen at hm
    clear ho b1 hn
    go_wp2
    go_loopw [6, 14] (fun f i wr => ∃ fr k : Nat, fr ≤ k ∧ k ≤ n ∧ f = .int .i64 fr ∧ i = .int .i64 k ∧ Hid (ItS w w.heap.size g n cap Lp fr k wr)) (fun _ i _ => n - (RowKit.intOf i).toNat)
    case atStart => exact ⟨0, 0, Nat.le_refl _, Nat.zero_le _, rfl, rfl, HI⟩
    case round =>
      clear HI
      obtain ⟨fr, k, hfk, hk, rfl, rfl, HI⟩ := hrel
      by_cases hlt : k < n
      · have hlt' : (k : Int) < (n : Int) := by omega
        obtain ⟨r, s, e, hx, c1, c2, c3⟩ := HI.out.get HN.out hfk hlt
        obtain ⟨WR, hWR⟩ : ∃ WR, WR = wr.alloc (.cells #[.int .i64 r, .int .i64 s, .int .i64 e] 30) := ⟨_, rfl⟩
        have bA : Below wr.heap.size wr WR := by rw [hWR]; exact (Below.refl _ wr).alloc (Nat.le_refl _) _
        have HI2 : Hid (ItS w w.heap.size g n cap Lp fr k WR) := HI.out.below bA
        have C := combining_t t r WR (HT.out.below HI2.out.low)
        rw [hWR] at C
        have hnn := ccc_nonneg r
        have HK : Hid (∀ s e, kI (r, s, e) = ccc r) := fun s e => rfl
        change 0 ≤ iF comL r at hnn
        change Hid (∀ s e, kI (r, s, e) = iF comL r) at HK
        have HX : Hid (Lp[k]? = some (r, s, e)) := hx
        generalize iF comL r = cc at *
        clear hx
        go_wp2_with fail
        refine C.mono ?_
        rintro e' w2 ⟨rfl, b2⟩
        rw [← hWR] at b2
        have HI3 : Hid (ItS w w.heap.size g n cap Lp fr k w2) := HI2.out.below b2
        clear C b2 bA hWR HI2 HI c1 c2 c3
        by_cases hz : cc = 0
        · have hzb : (cc == 0) = true := by simp [hz]
          have HZ : Hid (kI (r, s, e) = 0) := (HK.out s e).trans hz
          clear hz
          have q1 : (fr : Int) ≤ (k : Int) := by omega
          have q2 : (k : Int) ≤ (cap : Int) := by omega
          have q3 : (0 : Int) ≤ (fr : Int) := by omega
          have q4 : IntKind.i64.wrap ((k : Int) + 1) = (k : Int) + 1 := by rw [IntKind.wrap_i64]; omega
          have HCALL : Hid (Calls Tryz.prog 72 #[.pointer (some ⟨t, 0, none⟩), .slice (some ⟨g, fr * 3, none⟩) (k - fr) (cap - fr)] w2 fun e w' => e = .returned (.tuple #[]) ∧ ItS w w.heap.size g n cap Lp (k + 1) (k + 1) w') := by
            have hpl : (ordL kI (Lp.take fr)).length = fr := by rw [len_ordL, List.length_take, HN.out]; omega
            have hsl : ((Lp.drop fr).take (k - fr)).length = k - fr := by have := HN.out; simp; omega
            have hI := HI3.out
            rcases Nat.eq_zero_or_pos (k - fr) with hz0 | hz0
            · have hkf : fr = k := by omega
              show Calls _ _ _ _ _
              rw [hz0]
              refine (order_none t _ _ w2).mono ?_
              rintro e w3 ⟨rfl, b3⟩
              have hI3 := hI.below b3
              refine ⟨rfl, hI.cut hfk HX.out HZ.out srt_nil (by rw [hz0, List.take_zero]; exact FE.refl _ _) ?_ hI3.low⟩
              rw [List.nil_append]
              have := hI3.own
              rw [hkf] at this ⊢
              exact this
            · have ho := hI.own
              rw [drop_seg (Lp := Lp) hfk] at ho
              have := order_any t g cap n (cap - fr) w.heap.size w w2 (ordL kI (Lp.take fr)) ((Lp.drop fr).take (k - fr)) (Lp.drop k) HT.out hI.low hB ho (by have := HN.out; simp only [List.length_append, hpl, hsl, List.length_drop]; omega) (by omega) (by omega)
              rw [hpl, hsl] at this
              refine this.mono ?_
              rintro e w3 ⟨rfl, M, m1, m2, m3, m4⟩
              exact ⟨rfl, hI.cut hfk HX.out HZ.out m1 m2 m3 m4⟩
          clear HI3
          go_wp2_with fail
          refine HCALL.out.mono ?_
          rintro e' w3 ⟨rfl, hI4⟩
          have R1 : Hid (ItS w w.heap.size g n cap Lp (k + 1) (k + 1) w3) := hI4
          clear HCALL hI4
          go_wp2
          go_roundw
          case rel => exact ⟨k + 1, k + 1, Nat.le_refl _, by omega, by go_num, by go_num, R1⟩
          case measure => simp [RowKit.intOf]; omega
        · have hzb : (cc == 0) = false := beq_eq_false_iff_ne.2 hz
          have R1 : Hid (ItS w w.heap.size g n cap Lp fr (k + 1) w2) := HI3.out.on hfk HX.out (by rw [HK.out]; omega)
          clear HI3 hz
          go_wp2
          go_roundw
          case rel => exact ⟨fr, k + 1, by omega, by omega, rfl, by go_num, R1⟩
          case measure => simp [RowKit.intOf]; omega
      · obtain rfl : k = n := by omega
        have hlt' : ¬ (k : Int) < (k : Int) := by omega
        have q1 : (fr : Int) ≤ (k : Int) := by omega
        have q3 : (0 : Int) ≤ (fr : Int) := by omega
        have HCALL : Hid (Calls Tryz.prog 72 #[.pointer (some ⟨t, 0, none⟩), .slice (some ⟨g, fr * 3, none⟩) (k - fr) (cap - fr)] wr fun e w' => e = .returned (.tuple #[]) ∧ Own3 w' w.heap.size (.slice (some ⟨g, 0, none⟩) k cap) (ordL kI Lp) ∧ Below w.heap.size w w') := by
          have hpl : (ordL kI (Lp.take fr)).length = fr := by rw [len_ordL, List.length_take, HN.out]; omega
          have hsl : (Lp.drop fr).length = k - fr := by have := HN.out; simp; omega
          have hI := HI.out
          rcases Nat.eq_zero_or_pos (k - fr) with hz0 | hz0
          · have hkf : fr = k := by omega
            show Calls _ _ _ _ _
            rw [hz0]
            refine (order_none t _ _ wr).mono ?_
            rintro e w3 ⟨rfl, b3⟩
            have hI3 := hI.below b3
            refine ⟨rfl, hI3.fin HN.out hfk srt_nil (by rw [List.eq_nil_of_length_eq_zero (hsl.trans hz0)]; exact FE.refl _ _) ?_, hI3.low⟩
            have := hI3.own
            rw [List.eq_nil_of_length_eq_zero (hsl.trans hz0)] at this
            exact this
          · have ho := hI.own
            rw [show Lp.drop fr = Lp.drop fr ++ [] by simp] at ho
            have := order_any t g cap k (cap - fr) w.heap.size w wr (ordL kI (Lp.take fr)) (Lp.drop fr) [] HT.out hI.low hB ho (by have := HN.out; simp only [List.length_append, hpl, hsl, List.length_nil]; omega) (by omega) (by omega)
            rw [hpl, hsl] at this
            refine this.mono ?_
            rintro e w3 ⟨rfl, M, m1, m2, m3, m4⟩
            rw [List.append_nil] at m3
            exact ⟨rfl, hI.fin HN.out hfk m1 m2 m3, m4⟩
        by_cases hcf : cap = fr
        · have HN2 : Hid (∀ a c, Calls Tryz.prog 72 #[.pointer (some ⟨t, 0, none⟩), .slice a 0 c] wr fun e w' => e = .returned (.tuple #[]) ∧ Own3 w' w.heap.size (.slice (some ⟨g, 0, none⟩) k cap) (ordL kI Lp) ∧ Below w.heap.size w w') := fun a c => by
            have hsl : (Lp.drop fr).length = 0 := by have := HN.out; simp; omega
            have hI := HI.out
            refine (order_none t _ _ wr).mono ?_
            rintro e w3 ⟨rfl, b3⟩
            have hI3 := hI.below b3
            refine ⟨rfl, hI3.fin HN.out hfk srt_nil (by rw [List.eq_nil_of_length_eq_zero hsl]; exact FE.refl _ _) ?_, hI3.low⟩
            have := hI3.own
            rw [List.eq_nil_of_length_eq_zero hsl] at this
            exact this
          obtain rfl : k = fr := by omega
          subst hcf
          have hss : cap - cap = 0 := Nat.sub_self _
          clear HI HCALL
          go_wp2_with fail
          refine (HN2.out _ _).mono ?_
          rintro e' w3 ⟨rfl, r1, r2⟩
          have R1 : Hid (Own3 w3 w.heap.size (.slice (some ⟨g, 0, none⟩) cap cap) (ordL kI Lp)) := r1
          have R2 : Hid (Below w.heap.size w w3) := r2
          clear HN2 r1 r2
          go_wp2
          go_ret
          exact ⟨_, rfl, R1.out, R2.out⟩
        · have hcf1 : fr < cap := by omega
          have hcf2 : ¬ cap - fr = 0 := by omega
          have hcf3 : (cap - fr == 0) = false := beq_eq_false_iff_ne.2 hcf2
          have hcf4 : (fr : Int) < (cap : Int) := by omega
          have hcf5 : ¬ cap ≤ fr := by omega
          clear HI
          go_wp2_with fail
          refine HCALL.out.mono ?_
          rintro e' w3 ⟨rfl, r1, r2⟩
          have R1 : Hid (Own3 w3 w.heap.size (.slice (some ⟨g, 0, none⟩) k cap) (ordL kI Lp)) := r1
          have R2 : Hid (Below w.heap.size w w3) := r2
          clear HCALL r1 r2
          go_wp2
          go_ret
          exact ⟨_, rfl, R1.out, R2.out⟩
end Go.Proofs.YtlidgjkipbijlaaGreatDoor.nrm
end

section
/- norm.Runes: NFD of code points. -/
set_option linter.unusedVariables false
set_option linter.unusedSimpArgs false
namespace Go.Proofs.YtlidgjkipbijlaaGreatDoor.nrm
open Go.Shelf Go.RowKit Go.Lib Go.Sort Go.Proofs
open Go.Proofs.YtlidgjkipbijlaaGreatDoor.prp Go.Proofs.YtlidgjkipbijlaaGreatDoor.nfd Go.Proofs.YtlidgjkipbijlaaGreatDoor.lin Go.Proofs.YtlidgjkipbijlaaGreatDoor.dcp

def p0 (r : Int) : nfd.I := (r, 0, 0)
/-- NFD of code points. -/
def nfdR (l : List Int) : List Int := ordL ccc (l.flatMap fullL)
theorem nfdR_items (l : List Int) : (nfdI (l.map p0)).map (·.1) = nfdR l := by
  unfold nfdI nfdR
  rw [← ordL_map ccc kI (·.1) (fun x => rfl)]
  congr 1
  unfold apL
  rw [List.flatMap_map, List.map_flatMap]
  congr 1
  funext r
  simp [part3, p0, Function.comp_def]
theorem nfdI_len (l : List nfd.I) : (nfdI l).length ≤ l.length * 9 := by unfold nfdI; rw [len_ordL]; exact apL_len l
/-- In block g lie the items l, and nothing else. -/
def PRow (w : World) (g : Nat) (l : List nfd.I) : Prop := ∃ cur, w.heap[g]? = some (.cells cur 30 (0, 0)) ∧ cur.toList = fl l
end Go.Proofs.YtlidgjkipbijlaaGreatDoor.nrm
end
