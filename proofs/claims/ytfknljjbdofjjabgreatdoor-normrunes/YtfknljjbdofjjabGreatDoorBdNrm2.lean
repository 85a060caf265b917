/- Texts that the proof leans on, one behind the other. -/
import Derived.Test.YtfknljjbdofjjabGreatDoorBdNrm1
import Derived.OwnWalk
import Derived.ProofKit
import Derived.OpenShut
import Derived.Deep.DeepHandedRow
import Derived.ChangeMaps5
import Derived.Deep.Strs

section
/- norm.Items: NFD. -/
set_option linter.unusedVariables false
set_option linter.unusedSimpArgs false
namespace Go.Proofs.YtfknljjbdofjjabGreatDoor.nrm
open Go.Shelf Go.RowKit Go.Lib Go.Sort Go.Proofs
open Go.Proofs.YtfknljjbdofjjabGreatDoor.prp Go.Proofs.YtfknljjbdofjjabGreatDoor.nfd Go.Proofs.YtfknljjbdofjjabGreatDoor.lin Go.Proofs.YtfknljjbdofjjabGreatDoor.dcp

theorem com_pos : ∀ x ∈ comL, 0 ≤ num.rd x := by decide +kernel
theorem ccc_nonneg (r : Int) : 0 ≤ ccc r := by
  show 0 ≤ iF comL r
  rw [iF_first comL com_apart r]
  cases h : firstR comL r with
  | none => exact Int.le_refl _
  | some x => exact com_pos x (List.mem_of_find?_eq_some h)
/-- NFD of items. -/
def nfdI (l : List nfd.I) : List nfd.I := ordL kI (apL l)
/-- Where the loop stands: from fr on nothing has been put in order, and no class is 0 from there to k. -/
structure ItS (w : World) (B g n cap : Nat) (Lp : List nfd.I) (fr k : Nat) (W : World) : Prop where
  opn : nfd.Open kI (Lp.take fr)
  pos : ∀ x ∈ (Lp.drop fr).take (k - fr), 0 < kI x
  own : Own3 W B (.slice (some ⟨g, 0, none⟩) n cap) (ordL kI (Lp.take fr) ++ Lp.drop fr)
  low : Below w.heap.size w W
theorem ItS.get {w : World} {B g n cap : Nat} {Lp : List nfd.I} {fr k : Nat} {W : World} (h : ItS w B g n cap Lp fr k W) (hn : Lp.length = n) (hf : fr ≤ k) (hk : k < n) : ∃ r s e, Lp[k]? = some (r, s, e) ∧ W.cell? ⟨g, k * 3, none⟩ = some (.int .i64 r) ∧ W.cell? ⟨g, k * 3 + 1, none⟩ = some (.int .i64 s) ∧ W.cell? ⟨g, k * 3 + 2, none⟩ = some (.int .i64 e) := by
  obtain ⟨⟨r, s, e⟩, hx⟩ : ∃ x, Lp[k]? = some x := ⟨_, List.getElem?_eq_getElem (by omega)⟩
  have hlen : (ordL kI (Lp.take fr)).length = fr := by rw [len_ordL, List.length_take]; omega
  have hy : (ordL kI (Lp.take fr) ++ Lp.drop fr)[k]? = some (r, s, e) := by
    rw [List.getElem?_append_right (by omega), hlen, List.getElem?_drop, show fr + (k - fr) = k by omega]
    exact hx
  obtain ⟨a, c, e1, hv⟩ := h.own.iv
  obtain ⟨b, o, rfl, hc⟩ := hv (by have := (List.getElem?_eq_some_iff.1 hy).1; omega)
  cases e1
  obtain ⟨c1, c2, c3⟩ := hc k _ hy
  rw [Nat.zero_add] at c1 c2 c3
  exact ⟨r, s, e, hx, c1, c2, c3⟩
theorem ItS.below {w : World} {B g n cap : Nat} {Lp : List nfd.I} {fr k : Nat} {W W' : World} (h : ItS w B g n cap Lp fr k W) (hb : Below W.heap.size W W') : ItS w B g n cap Lp fr k W' := ⟨h.opn, h.pos, h.own.below hb, h.low.trans (hb.mono h.low.size)⟩
theorem seg_snoc {Lp : List nfd.I} {fr k : Nat} {x : nfd.I} (h : fr ≤ k) (hx : Lp[k]? = some x) : (Lp.drop fr).take (k + 1 - fr) = (Lp.drop fr).take (k - fr) ++ [x] := by
  rw [show k + 1 - fr = k - fr + 1 by omega, List.take_add_one, List.getElem?_drop, show fr + (k - fr) = k by omega, hx]
  rfl
/-- One more, of a class above 0. -/
theorem ItS.on {w : World} {B g n cap : Nat} {Lp : List nfd.I} {fr k : Nat} {W : World} {x : nfd.I} (h : ItS w B g n cap Lp fr k W) (hf : fr ≤ k) (hx : Lp[k]? = some x) (hp : 0 < kI x) : ItS w B g n cap Lp fr (k + 1) W := by
  refine ⟨h.opn, fun y hy => ?_, h.own, h.low⟩
  rw [seg_snoc hf hx] at hy
  rcases List.mem_append.1 hy with hy | hy
  · exact h.pos y hy
  · simp at hy; subst hy; exact hp
theorem take_seg {Lp : List nfd.I} {fr k : Nat} (h : fr ≤ k) : Lp.take k = Lp.take fr ++ (Lp.drop fr).take (k - fr) := by
  have : k = fr + (k - fr) := by omega
  conv => lhs; rw [this]
  rw [List.take_add]
theorem drop_seg {Lp : List nfd.I} {fr k : Nat} (h : fr ≤ k) : Lp.drop fr = (Lp.drop fr).take (k - fr) ++ Lp.drop k := by
  have e : (Lp.drop fr).drop (k - fr) = Lp.drop k := by rw [List.drop_drop]; congr 1; omega
  rw [← e, List.take_append_drop]
/-- One more, of class 0: what stood ahead of it has been sorted. -/
theorem ItS.cut {w : World} {B g n cap : Nat} {Lp M : List nfd.I} {fr k : Nat} {W W' : World} {x : nfd.I} (h : ItS w B g n cap Lp fr k W) (hf : fr ≤ k) (hx : Lp[k]? = some x) (hz : kI x = 0) (h1 : Srt kI M) (h2 : FE kI ((Lp.drop fr).take (k - fr)) M)
    (ho : Own3 W' B (.slice (some ⟨g, 0, none⟩) n cap) (ordL kI (Lp.take fr) ++ (M ++ Lp.drop k))) (hb : Below w.heap.size w W') : ItS w B g n cap Lp (k + 1) (k + 1) W' := by
  have hk : k < Lp.length := (List.getElem?_eq_some_iff.1 hx).1
  have hd : Lp.drop k = x :: Lp.drop (k + 1) := by rw [List.drop_eq_getElem_cons hk, (List.getElem?_eq_some_iff.1 hx).2]
  have ht : Lp.take (k + 1) = (Lp.take fr ++ (Lp.drop fr).take (k - fr)) ++ [x] := by rw [← take_seg hf, List.take_succ_eq_append_getElem hk, (List.getElem?_eq_some_iff.1 hx).2]
  refine ⟨.inr ⟨_, x, ht, by omega⟩, fun y hy => by rw [Nat.sub_self] at hy; simp at hy, ?_, hb⟩
  rw [ht, ordL_zero kI _ x (by omega), open_run kI _ _ M h.opn h.pos h1 h2]
  rw [hd] at ho
  simpa using ho
theorem ItS.fin {w : World} {B g n cap : Nat} {Lp M : List nfd.I} {fr : Nat} {W W' : World} (h : ItS w B g n cap Lp fr n W) (hn : Lp.length = n) (hf : fr ≤ n) (h1 : Srt kI M) (h2 : FE kI (Lp.drop fr) M)
    (ho : Own3 W' B (.slice (some ⟨g, 0, none⟩) n cap) (ordL kI (Lp.take fr) ++ M)) : Own3 W' B (.slice (some ⟨g, 0, none⟩) n cap) (ordL kI Lp) := by
  have e : (Lp.drop fr).take (n - fr) = Lp.drop fr := List.take_of_length_le (by simp; omega)
  have := open_run kI (Lp.take fr) (Lp.drop fr) M h.opn (by have := h.pos; rw [e] at this; exact this) h1 h2
  rw [List.take_append_drop] at this
  rw [this]
  exact ho
theorem srt_nil : Srt kI [] := List.Pairwise.nil
set_option maxHeartbeats 4000000 in
set_option maxRecDepth 1000000 in
theorem items_any (t : Nat) (v : Value) (l : List nfd.I) (w : World) (hT : Tabs w t) (hv : IVI w v l) (hok : ∀ x ∈ l, okI x.1) (hl : l.length ≤ 100000) :
    Calls Tryz.prog 20 #[.pointer (some ⟨t, 0, none⟩), v] w fun e w' => ∃ v, e = .returned v ∧ Own3 w' w.heap.size v (nfdI l) ∧ Below w.heap.size w w' := by
  have C := apart_any t v l w hT hv hok hl
  have hlen := apL_len l
  have HT : Hid (Tabs w t) := hT
  have HND : Hid (nfdI l = ordL kI (apL l)) := rfl
  obtain ⟨va, vc, rfl, _⟩ := hv
  rw [HND.out]
  clear hT hok HND
  generalize apL l = Lp at *
  have hn9 : Lp.length ≤ 900000 := by omega
  generalize l.length = ll at *
  obtain ⟨n, hn⟩ : ∃ n, Lp.length = n := ⟨_, rfl⟩
  clear hlen
  go_enter Tryz.func20, Tryz.ntmps20
  go_wp2_with fail
  refine C.mono ?_
  rintro e w1 ⟨v1, rfl, ho, b1⟩
  clear C
  rcases Nat.eq_zero_or_pos n with h0 | h0
  · subst h0
    have hLp : Lp = [] := List.eq_nil_of_length_eq_zero hn
    subst hLp
    obtain ⟨ya, yc, hy⟩ := own_slice ho
    have HO : Hid (Own3 w1 w.heap.size v1 (ordL kI [])) := ho
    subst hy
    simp only [List.length_nil] at HO ⊢
    have HB : Hid (Below w.heap.size w w1) := b1
    clear ho b1 hn
    go_wp2
    refine wp_loop_rounds 1 ?_
    rw [rounds_succ]
    go_wp2_with fail
    refine (order_none t ya yc w1).mono ?_
    rintro e w2 ⟨rfl, b2⟩
    have R1 : Hid (Own3 w2 w.heap.size (.slice ya 0 yc) (ordL kI [])) := HO.out.below b2
    have R2 : Hid (Below w.heap.size w w2) := HB.out.trans (b2.mono HB.out.size)
    clear b2
    go_wp2
    go_ret
    exact ⟨_, rfl, R1.out, R2.out⟩
  · obtain ⟨g, cap, rfl, hc, hm, hB, hgl, _⟩ := ho.some (by omega)
    rw [hn] at hc ⊢
    have HI : Hid (ItS w w.heap.size g n cap Lp 0 0 w1) := by
      refine ⟨.inl rfl, fun x hx => by simp at hx, ?_, b1⟩
      rw [List.take_zero, List.drop_zero]
      rw [hn] at ho
      exact ho
    have HN : Hid (Lp.length = n) := hn
    have hnx : n ≤ 900000 := by omega
    have hb1 := b1.size
    unfold maxLen at hm
    clear ho b1 hn
    go_wp2
    go_loopw [6, 14] (fun f i wr => ∃ fr k : Nat, fr ≤ k ∧ k ≤ n ∧ f = .int .i64 fr ∧ i = .int .i64 k ∧ Hid (ItS w w.heap.size g n cap Lp fr k wr)) (fun _ i _ => n - (RowKit.intOf i).toNat)
    case atStart => exact ⟨0, 0, Nat.le_refl _, Nat.zero_le _, rfl, rfl, HI⟩
    case round =>
      clear HI
      obtain ⟨fr, k, hfk, hk, rfl, rfl, HI⟩ := hrel
      by_cases hlt : k < n
      · have hlt' : (k : Int) < (n : Int) := by omega
        obtain ⟨r, s, e, hx, c1, c2, c3⟩ := HI.out.get HN.out hfk hlt
        obtain ⟨WR, hWR⟩ : ∃ WR, WR = wr.alloc (.cells #[.int .i64 r, .int .i64 s, .int .i64 e] 40) := ⟨_, rfl⟩
        have bA : Below wr.heap.size wr WR := by rw [hWR]; exact (Below.refl _ wr).alloc (Nat.le_refl _) _
        have HI2 : Hid (ItS w w.heap.size g n cap Lp fr k WR) := HI.out.below bA
        have C := combining_t t r WR (HT.out.below HI2.out.low)
        rw [hWR] at C
        have hnn := ccc_nonneg r
        have HK : Hid (∀ s e, kI (r, s, e) = ccc r) := fun s e => rfl
        change 0 ≤ iF comL r at hnn
        change Hid (∀ s e, kI (r, s, e) = iF comL r) at HK
        have HX : Hid (Lp[k]? = some (r, s, e)) := hx
        generalize iF comL r = cc at *
        clear hx
        go_wp2_with fail
        refine C.mono ?_
        rintro e' w2 ⟨rfl, b2⟩
        rw [← hWR] at b2
        have HI3 : Hid (ItS w w.heap.size g n cap Lp fr k w2) := HI2.out.below b2
        clear C b2 bA hWR HI2 HI c1 c2 c3
        by_cases hz : cc = 0
        · have hzb : (cc == 0) = true := by simp [hz]
          have HZ : Hid (kI (r, s, e) = 0) := (HK.out s e).trans hz
          clear hz
          have q1 : (fr : Int) ≤ (k : Int) := by omega
          have q2 : (k : Int) ≤ (cap : Int) := by omega
          have q3 : (0 : Int) ≤ (fr : Int) := by omega
          have q4 : IntKind.i64.wrap ((k : Int) + 1) = (k : Int) + 1 := by rw [IntKind.wrap_i64]; omega
          have HCALL : Hid (Calls Tryz.prog 46 #[.pointer (some ⟨t, 0, none⟩), .slice (some ⟨g, fr * 3, none⟩) (k - fr) (cap - fr)] w2 fun e w' => e = .returned (.tuple #[]) ∧ ItS w w.heap.size g n cap Lp (k + 1) (k + 1) w') := by
            have hpl : (ordL kI (Lp.take fr)).length = fr := by rw [len_ordL, List.length_take, HN.out]; omega
            have hsl : ((Lp.drop fr).take (k - fr)).length = k - fr := by have := HN.out; simp; omega
            have hI := HI3.out
            rcases Nat.eq_zero_or_pos (k - fr) with hz0 | hz0
            · have hkf : fr = k := by omega
              show Calls _ _ _ _ _
              rw [hz0]
              refine (order_none t _ _ w2).mono ?_
              rintro e w3 ⟨rfl, b3⟩
              have hI3 := hI.below b3
              refine ⟨rfl, hI.cut hfk HX.out HZ.out srt_nil (by rw [hz0, List.take_zero]; exact FE.refl _ _) ?_ hI3.low⟩
              rw [List.nil_append]
              have := hI3.own
              rw [hkf] at this ⊢
              exact this
            · have ho := hI.own
              rw [drop_seg (Lp := Lp) hfk] at ho
              have := order_any t g cap n (cap - fr) w.heap.size w w2 (ordL kI (Lp.take fr)) ((Lp.drop fr).take (k - fr)) (Lp.drop k) HT.out hI.low hB ho (by have := HN.out; simp only [List.length_append, hpl, hsl, List.length_drop]; omega) (by omega) (by omega)
              rw [hpl, hsl] at this
              refine this.mono ?_
              rintro e w3 ⟨rfl, M, m1, m2, m3, m4⟩
              exact ⟨rfl, hI.cut hfk HX.out HZ.out m1 m2 m3 m4⟩
          clear HI3
          go_wp2_with fail
          refine HCALL.out.mono ?_
          rintro e' w3 ⟨rfl, hI4⟩
          have R1 : Hid (ItS w w.heap.size g n cap Lp (k + 1) (k + 1) w3) := hI4
          clear HCALL hI4
          go_wp2
          go_roundw
          case rel => exact ⟨k + 1, k + 1, Nat.le_refl _, by omega, by go_num, by go_num, R1⟩
          case measure => simp [RowKit.intOf]; omega
        · have hzb : (cc == 0) = false := beq_eq_false_iff_ne.2 hz
          have R1 : Hid (ItS w w.heap.size g n cap Lp fr (k + 1) w2) := HI3.out.on hfk HX.out (by rw [HK.out]; omega)
          clear HI3 hz
          go_wp2
          go_roundw
          case rel => exact ⟨fr, k + 1, by omega, by omega, rfl, by go_num, R1⟩
          case measure => simp [RowKit.intOf]; omega
      · obtain rfl : k = n := by omega
        have hlt' : ¬ (k : Int) < (k : Int) := by omega
        have q1 : (fr : Int) ≤ (k : Int) := by omega
        have q3 : (0 : Int) ≤ (fr : Int) := by omega
        have HCALL : Hid (Calls Tryz.prog 46 #[.pointer (some ⟨t, 0, none⟩), .slice (some ⟨g, fr * 3, none⟩) (k - fr) (cap - fr)] wr fun e w' => e = .returned (.tuple #[]) ∧ Own3 w' w.heap.size (.slice (some ⟨g, 0, none⟩) k cap) (ordL kI Lp) ∧ Below w.heap.size w w') := by
          have hpl : (ordL kI (Lp.take fr)).length = fr := by rw [len_ordL, List.length_take, HN.out]; omega
          have hsl : (Lp.drop fr).length = k - fr := by have := HN.out; simp; omega
          have hI := HI.out
          rcases Nat.eq_zero_or_pos (k - fr) with hz0 | hz0
          · have hkf : fr = k := by omega
            show Calls _ _ _ _ _
            rw [hz0]
            refine (order_none t _ _ wr).mono ?_
            rintro e w3 ⟨rfl, b3⟩
            have hI3 := hI.below b3
            refine ⟨rfl, hI3.fin HN.out hfk srt_nil (by rw [List.eq_nil_of_length_eq_zero (hsl.trans hz0)]; exact FE.refl _ _) ?_, hI3.low⟩
            have := hI3.own
            rw [List.eq_nil_of_length_eq_zero (hsl.trans hz0)] at this
            exact this
          · have ho := hI.own
            rw [show Lp.drop fr = Lp.drop fr ++ [] by simp] at ho
            have := order_any t g cap k (cap - fr) w.heap.size w wr (ordL kI (Lp.take fr)) (Lp.drop fr) [] HT.out hI.low hB ho (by have := HN.out; simp only [List.length_append, hpl, hsl, List.length_nil]; omega) (by omega) (by omega)
            rw [hpl, hsl] at this
            refine this.mono ?_
            rintro e w3 ⟨rfl, M, m1, m2, m3, m4⟩
            rw [List.append_nil] at m3
            exact ⟨rfl, hI.fin HN.out hfk m1 m2 m3, m4⟩
        by_cases hcf : cap = fr
        · have HN2 : Hid (∀ a c, Calls Tryz.prog 46 #[.pointer (some ⟨t, 0, none⟩), .slice a 0 c] wr fun e w' => e = .returned (.tuple #[]) ∧ Own3 w' w.heap.size (.slice (some ⟨g, 0, none⟩) k cap) (ordL kI Lp) ∧ Below w.heap.size w w') := fun a c => by
            have hsl : (Lp.drop fr).length = 0 := by have := HN.out; simp; omega
            have hI := HI.out
            refine (order_none t _ _ wr).mono ?_
            rintro e w3 ⟨rfl, b3⟩
            have hI3 := hI.below b3
            refine ⟨rfl, hI3.fin HN.out hfk srt_nil (by rw [List.eq_nil_of_length_eq_zero hsl]; exact FE.refl _ _) ?_, hI3.low⟩
            have := hI3.own
            rw [List.eq_nil_of_length_eq_zero hsl] at this
            exact this
          obtain rfl : k = fr := by omega
          subst hcf
          have hss : cap - cap = 0 := Nat.sub_self _
          clear HI HCALL
          go_wp2_with fail
          refine (HN2.out _ _).mono ?_
          rintro e' w3 ⟨rfl, r1, r2⟩
          have R1 : Hid (Own3 w3 w.heap.size (.slice (some ⟨g, 0, none⟩) cap cap) (ordL kI Lp)) := r1
          have R2 : Hid (Below w.heap.size w w3) := r2
          clear HN2 r1 r2
          go_wp2
          go_ret
          exact ⟨_, rfl, R1.out, R2.out⟩
        · have hcf1 : fr < cap := by omega
          have hcf2 : ¬ cap - fr = 0 := by omega
          have hcf3 : (cap - fr == 0) = false := beq_eq_false_iff_ne.2 hcf2
          have hcf4 : (fr : Int) < (cap : Int) := by omega
          have hcf5 : ¬ cap ≤ fr := by omega
          clear HI
          go_wp2_with fail
          refine HCALL.out.mono ?_
          rintro e' w3 ⟨rfl, r1, r2⟩
          have R1 : Hid (Own3 w3 w.heap.size (.slice (some ⟨g, 0, none⟩) k cap) (ordL kI Lp)) := r1
          have R2 : Hid (Below w.heap.size w w3) := r2
          clear HCALL r1 r2
          go_wp2
          go_ret
          exact ⟨_, rfl, R1.out, R2.out⟩
end Go.Proofs.YtfknljjbdofjjabGreatDoor.nrm
end

section
/- norm.Runes: NFD of code points. -/
set_option linter.unusedVariables false
set_option linter.unusedSimpArgs false
namespace Go.Proofs.YtfknljjbdofjjabGreatDoor.nrm
open Go.Shelf Go.RowKit Go.Lib Go.Sort Go.Proofs
open Go.Proofs.YtfknljjbdofjjabGreatDoor.prp Go.Proofs.YtfknljjbdofjjabGreatDoor.nfd Go.Proofs.YtfknljjbdofjjabGreatDoor.lin Go.Proofs.YtfknljjbdofjjabGreatDoor.dcp

def p0 (r : Int) : nfd.I := (r, 0, 0)
/-- NFD of code points. -/
def nfdR (l : List Int) : List Int := ordL ccc (l.flatMap fullL)
theorem nfdR_items (l : List Int) : (nfdI (l.map p0)).map (·.1) = nfdR l := by
  unfold nfdI nfdR
  rw [← ordL_map ccc kI (·.1) (fun x => rfl)]
  congr 1
  unfold apL
  rw [List.flatMap_map, List.map_flatMap]
  congr 1
  funext r
  simp [part3, p0, Function.comp_def]
theorem nfdI_len (l : List nfd.I) : (nfdI l).length ≤ l.length * 9 := by unfold nfdI; rw [len_ordL]; exact apL_len l
theorem fl_set (A B : List nfd.I) (y r : Int) (b c : Int) : (fl (A ++ (y, b, c) :: B)).set (A.length * 3) (.int .i64 r) = fl (A ++ (r, b, c) :: B) := by
  rw [fl_append, fl_append, List.set_append_right _ _ (by rw [fl_length]; omega), fl_length, Nat.sub_self]
  rfl
theorem made_fl (n : Nat) : (madeCells (Value.agg #[.int .i64 0, .int .i64 0, .int .i64 0]).cells (n * 3)).toList = fl (List.replicate n (0, 0, 0)) := by
  apply List.ext_getElem?
  intro j
  rw [Array.getElem?_toList]
  by_cases hj : j < n * 3
  · have h3 : (fl (List.replicate n ((0, 0, 0) : nfd.I)))[j]? = some (.int .i64 0) := by
      obtain ⟨e1, e2, e3⟩ := fl_get (List.replicate n ((0, 0, 0) : nfd.I)) (j / 3) (0, 0, 0) (by rw [List.getElem?_replicate, if_pos (by omega)])
      rcases (show j % 3 = 0 ∨ j % 3 = 1 ∨ j % 3 = 2 by omega) with h | h | h
      · rw [show j = j / 3 * 3 by omega]; exact e1
      · rw [show j = j / 3 * 3 + 1 by omega]; exact e2
      · rw [show j = j / 3 * 3 + 2 by omega]; exact e3
    rw [h3]
    unfold madeCells
    rw [Array.getElem?_map, Array.getElem?_range, if_pos hj]
    simp only [Option.map_some, Value.cells]
    congr 1
    rcases (show j % 3 = 0 ∨ j % 3 = 1 ∨ j % 3 = 2 by omega) with h | h | h <;> simp [h]
  · rw [Array.getElem?_eq_none (by rw [size_madeCells]; omega), List.getElem?_eq_none (by rw [fl_length, List.length_replicate]; omega)]
/-- In block g lie the items l, and nothing else. -/
def PRow (w : World) (g : Nat) (l : List nfd.I) : Prop := ∃ cur, w.heap[g]? = some (.cells cur 40 (0, 0)) ∧ cur.toList = fl l
theorem PRow.cell {w : World} {g : Nat} {l : List nfd.I} (h : PRow w g l) (j : Nat) : w.cell? ⟨g, j, none⟩ = (fl l)[j]? := by
  obtain ⟨cur, h1, h2⟩ := h
  rw [← h2, Array.getElem?_toList]
  simp [World.cell?, h1]
theorem PRow.frozen {w : World} {g : Nat} {l : List nfd.I} (h : PRow w g l) (j : Nat) : w.frozen? ⟨g, j, none⟩ = false := by
  obtain ⟨cur, h1, h2⟩ := h
  simp [World.frozen?, h1]
theorem PRow.iv {w : World} {g cap : Nat} {l : List nfd.I} (h : PRow w g l) : IVI w (.slice (some ⟨g, 0, none⟩) l.length cap) l := ⟨_, cap, rfl, fun _ => ⟨g, 0, rfl, fun i p hi => by
  obtain ⟨e1, e2, e3⟩ := fl_get l i p hi
  rw [Nat.zero_add, h.cell, h.cell, h.cell]
  exact ⟨e1, e2, e3⟩⟩⟩
theorem PRow.set {w : World} {g : Nat} {A B : List nfd.I} {y b c : Int} (h : PRow w g (A ++ (y, b, c) :: B)) (r : Int) : PRow (w.setCell ⟨g, A.length * 3, none⟩ (.int .i64 r)) g (A ++ (r, b, c) :: B) := by
  obtain ⟨cur, h1, h2⟩ := h
  refine ⟨cur.setIfInBounds (A.length * 3) (.int .i64 r), ?_, ?_⟩
  · simp [World.setCell, Array.getElem?_modify, h1]
  · rw [Array.toList_setIfInBounds, h2, fl_set]
theorem rep_cons (n k : Nat) (h : k < n) : List.replicate (n - k) ((0, 0, 0) : nfd.I) = (0, 0, 0) :: List.replicate (n - (k + 1)) (0, 0, 0) := by
  rw [show n - k = n - (k + 1) + 1 by omega, List.replicate_succ]
set_option maxHeartbeats 4000000 in
set_option maxRecDepth 1000000 in
theorem runes_any (t : Nat) (v : Value) (l : List Int) (w : World) (hT : Tabs w t) (hv : IV w v l) (hok : ∀ x ∈ l, okI x) (hl : l.length ≤ 100000) :
    Calls Tryz.prog 13 #[.pointer (some ⟨t, 0, none⟩), v] w fun e w' => ∃ v, e = .returned v ∧ IOwn w' w.heap.size v (nfdR l) ∧ Below w.heap.size w w' := by
  obtain ⟨i0, hi, hz0, hz1, hz2⟩ := rng.info_parts infoItem
  obtain ⟨j0, ji, jz0, jz1, jz2⟩ := rng.info_parts infoInt
  obtain ⟨ao, cap, rfl, hcells⟩ := hv
  have HT : Hid (Tabs w t) := hT
  obtain ⟨n, hn⟩ : ∃ n, l.length = n := ⟨_, rfl⟩
  have HC : Hid (∀ (k : Nat), k < n → ∃ r b o, ao = some ⟨b, o, none⟩ ∧ w.cell? ⟨b, o + k, none⟩ = some (.int .i64 r) ∧ l.take (k + 1) = l.take k ++ [r]) := fun k hk => by
    obtain ⟨b, o, e, hc⟩ := hcells (by omega)
    exact ⟨l[k], b, o, e, by rw [hc k (by omega), List.getD_eq_getElem?_getD, List.getElem?_eq_getElem (by omega)]; rfl, List.take_succ_eq_append_getElem (by omega)⟩
  have HI : Hid (∀ (W : World) (v : Value), Tabs W t → IVI W v (l.map p0) → Calls Tryz.prog 20 #[.pointer (some ⟨t, 0, none⟩), v] W fun e w' => ∃ v, e = .returned v ∧ Own3 w' W.heap.size v (nfdI (l.map p0)) ∧ Below W.heap.size W w') := fun W v h1 h2 => items_any t v (l.map p0) W h1 h2 (fun x hx => by obtain ⟨r, hr, rfl⟩ := List.mem_map.1 hx; exact hok r hr) (by rw [List.length_map]; exact hl)
  have HR : Hid ((nfdI (l.map p0)).map (·.1) = nfdR l) := nfdR_items l
  have hnl : (nfdI (l.map p0)).length ≤ 900000 := by have := nfdI_len (l.map p0); rw [List.length_map] at this; omega
  have HLT : Hid (l.take n = l) := by rw [← hn]; exact List.take_length
  have HLL : Hid (l.length = n) := hn
  rw [hn] at hl ⊢
  rw [← HR.out]
  clear hcells hok hT hn
  go_enter Tryz.func13, Tryz.ntmps13
  go_wp2_with (refine wpList_make_full w rfl _ _ 37 rfl w.heap.size 40 i0 (.agg #[.int .i64 0, .int .i64 0, .int .i64 0]) 3 Tryz.underlying37 hi hz0 hz1 .i64 .i64 _ _ n rfl rfl rfl rfl (by rw [hz2]; omega) (by unfold maxLen; omega) (Nat.le_refl _) ?_)
  intro w1 hown1 hgrow1
  obtain ⟨gg, hgg⟩ : ∃ gg, w.heap.size = gg := ⟨_, rfl⟩
  have hsz1 : gg < w1.heap.size := by
    rcases hown1.2 with ⟨h0, _⟩ | ⟨g, c2, cur, hv, hg, hgh, _⟩
    · cases h0
    · cases hv; have := (Array.getElem?_eq_some_iff.1 hgh).1; omega
  have HP1 : Hid (PRow w1 gg (((l.take 0).map p0) ++ List.replicate (n - 0) (0, 0, 0))) := by
    rcases hown1.2 with ⟨h0, _⟩ | ⟨g, c2, cur, hv, hg, hgh, h3, h4, h5, h6⟩
    · cases h0
    · cases hv
      refine ⟨cur, by rw [← hgg]; exact hgh, ?_⟩
      have hfull : cur.toList.take (n * 3) = cur.toList := List.take_of_length_le (by rw [Array.length_toList, h5]; omega)
      rw [hfull] at h6
      exact h6.trans ((made_fl n).trans (by simp))
  have HB1 : Hid (Below w.heap.size w w1) := Below.grown (Below.refl _ _) hgrow1 (Nat.le_refl _) (fun k e => by cases e)
  clear hown1 hgrow1
  rw [hgg]
  go_wp2
  go_loopw [16] (fun i wr => ∃ k : Nat, k ≤ n ∧ i = .int .i64 k ∧ Hid (PRow wr gg (((l.take k).map p0) ++ List.replicate (n - k) (0, 0, 0))) ∧ Hid (Below w.heap.size w wr) ∧ gg < wr.heap.size) (fun i _ => n - (RowKit.intOf i).toNat)
  case atStart => exact ⟨0, Nat.zero_le _, rfl, HP1, HB1, hsz1⟩
  case round =>
    clear HP1 HB1 hsz1
    obtain ⟨k, hk, rfl, HP, HB, hsz⟩ := hrel
    by_cases hlt : k < n
    · have hlt' : (k : Int) < (n : Int) := by omega
      obtain ⟨r, b, o, rfl, hc, htk⟩ := HC.out k hlt
      have hc1 := cell_below HB.out hc
      have hpr := HP.out
      rw [rep_cons n k hlt] at hpr
      have hkl : ((l.take k).map p0).length = k := by rw [List.length_map, List.length_take, HLL.out]; omega
      have e1 : wr.cell? ⟨gg, k * 3, none⟩ = some (.int .i64 0) := by
        rw [hpr.cell, fl_append, List.getElem?_append_right (by rw [fl_length, hkl]; omega), fl_length, hkl, Nat.sub_self]
        rfl
      have e2 := hpr.frozen (k * 3)
      have R1 : Hid (PRow (wr.setCell ⟨gg, k * 3, none⟩ (.int .i64 r)) gg (((l.take (k + 1)).map p0) ++ List.replicate (n - (k + 1)) (0, 0, 0))) := by
        have := hpr.set r
        rw [hkl] at this
        show PRow _ _ _
        rw [htk, List.map_append, List.append_assoc]
        exact this
      have R2 : Hid (Below w.heap.size w (wr.setCell ⟨gg, k * 3, none⟩ (.int .i64 r))) := HB.out.setCell (by show w.heap.size ≤ gg; omega) _
      have R3 : gg < (wr.setCell ⟨gg, k * 3, none⟩ (.int .i64 r)).heap.size := by simp [World.setCell]; exact hsz
      clear HP HB hpr hc htk
      go_wp2
      go_roundw
      case rel => exact ⟨k + 1, by omega, by go_num, R1, R2, R3⟩
      case measure => simp [RowKit.intOf]; omega
    · obtain rfl : k = n := by omega
      have hlt' : ¬ (k : Int) < (k : Int) := by omega
      have hpr := HP.out
      rw [HLT.out, Nat.sub_self, List.replicate_zero, List.append_nil] at hpr
      have hiv := hpr.iv (cap := k)
      rw [List.length_map, HLL.out] at hiv
      have C := HI.out wr _ (HT.out.below HB.out) hiv
      have HBW : Hid (Below w.heap.size w wr) := HB.out
      clear HP hpr hiv HB HI
      obtain ⟨NF, hNF⟩ : ∃ NF, nfdI (l.map p0) = NF := ⟨_, rfl⟩
      have HNF : Hid (nfdI (l.map p0) = NF) := hNF
      rw [hNF] at C hnl
      clear hNF
      go_wp2_with fail
      refine C.mono ?_
      rintro e w3 ⟨v3, rfl, ho3, b3⟩
      clear C
      obtain ⟨va, vc, rfl, hcl⟩ := ho3.iv
      obtain ⟨m, hm⟩ : ∃ m, NF.length = m := ⟨_, rfl⟩
      have HC3 : Hid (∀ (j : Nat), j < m → ∃ r s e b o, va = some ⟨b, o, none⟩ ∧ w3.cell? ⟨b, o + j * 3, none⟩ = some (.int .i64 r) ∧ w3.cell? ⟨b, o + j * 3 + 1, none⟩ = some (.int .i64 s) ∧ w3.cell? ⟨b, o + j * 3 + 2, none⟩ = some (.int .i64 e) ∧ (NF.map (·.1)).take (j + 1) = (NF.map (·.1)).take j ++ [r]) := fun j hj => by
        obtain ⟨b, o, e, hc⟩ := hcl (by omega)
        obtain ⟨x, hx⟩ : ∃ x, NF[j]? = some x := ⟨_, List.getElem?_eq_getElem (by omega)⟩
        obtain ⟨c1, c2, c3⟩ := hc j x hx
        exact ⟨_, _, _, b, o, e, c1, c2, c3, by rw [List.take_add_one, List.getElem?_map, hx]; rfl⟩
      have HB3 : Hid (Below w.heap.size w w3) := HBW.out.trans (b3.mono HBW.out.size)
      have HML : Hid (NF.length = m) := hm
      rw [hm] at hnl ⊢
      have hb3 := HB3.out.size
      clear ho3 b3 hcl hm HBW
      go_wp2
      go_loopw [8, 31] (fun v i wr => ∃ j : Nat, j ≤ m ∧ i = .int .i64 j ∧ Hid (IOwn wr w3.heap.size v ((NF.map (·.1)).take j)) ∧ Hid (Below w3.heap.size w3 wr)) (fun _ i _ => m - (RowKit.intOf i).toNat)
      case atStart => exact ⟨0, Nat.zero_le _, rfl, World.ownsRow_nil _ _ _ _, Below.refl _ _⟩
      case round =>
        obtain ⟨j, hj, rfl, HO, HB⟩ := hrel
        by_cases hlt2 : j < m
        · have hlt2' : (j : Int) < (m : Int) := by omega
          obtain ⟨r, s, e, b, o, rfl, c1, c2, c3, htk⟩ := HC3.out j hlt2
          have d1 := cell_below HB.out c1
          have d2 := cell_below HB.out c2
          have d3 := cell_below HB.out c3
          have HTK : Hid ((NF.map (·.1)).take (j + 1) = (NF.map (·.1)).take j ++ [r]) := htk
          have hsz := HB.out.size
          have hjl : ((NF.map (·.1)).take j).length = j := by rw [List.length_take, List.length_map, HML.out]; omega
          obtain ⟨ya, yc, hy⟩ := own_slice HO.out
          have HO2 : Hid ((wr.alloc (.cells #[.int .i64 r, .int .i64 s, .int .i64 e] 40)).ownsRow w3.heap.size 3 1 (.slice ya j yc) j (((NF.map (·.1)).take j).map (Value.int .i64))) := by
            have := own_below HO.out ((Below.refl _ wr).alloc (Nat.le_refl _) (.cells #[.int .i64 r, .int .i64 s, .int .i64 e] 40))
            rw [hy, hjl] at this
            exact this
          subst hy
          rw [hjl]
          clear c1 c2 c3 htk HO
          go_wp2_with (at_builtin; refine wpList_append_own _ rfl _ _ 22 rfl w3.heap.size 3 j0 (.int .i64 0) 1 8 Tryz.underlying22 ji jz0 jz1 jz2 rfl (by decide) _ _ _ rfl (HO2.out.alloc _) ⟨wr.heap.size + 1, 0, none⟩ 1 1 [.int .i64 r] rfl rfl ?c1 ?c2 ?c3 ?c4 ?c5 ?_)
          try (case c1 => first | exact cell_one_new _ _ _ | (have := cell_one_new (wr.alloc (.cells #[.int .i64 r, .int .i64 s, .int .i64 e] 40)) (.int .i64 r) 3; simpa using this))
          case c2 => first | (intro u hu; simp at hu; subst hu; rfl) | simp [Value.oneCell']
          case c3 => unfold maxLen; omega
          case c4 => omega
          case c5 => first | omega | (simp; omega)
          intro v' w5 hown5 hgrow _
          have R2 : Hid (Below w3.heap.size w3 w5) := Below.grown ((HB.out.alloc hsz _).alloc (by simp; omega) _) hgrow (by simp; omega) (fun k e => (HO2.out.lt k e).1)
          have R1 : Hid (IOwn w5 w3.heap.size v' ((NF.map (·.1)).take (j + 1))) := by
            show IOwn _ _ _ _
            unfold IOwn
            rw [HTK.out, List.length_append, List.length_singleton, List.map_append, hjl]
            simpa using hown5
          clear hown5 hgrow HO2 HB
          go_wp2
          go_roundw
          case rel => exact ⟨j + 1, by omega, by go_num, R1, R2⟩
          case measure => simp [RowKit.intOf]; omega
        · obtain rfl : j = m := by omega
          have hlt2' : ¬ (j : Int) < (j : Int) := by omega
          have hall : (NF.map (·.1)).take j = NF.map (·.1) := List.take_of_length_le (by rw [List.length_map, HML.out]; exact Nat.le_refl _)
          obtain ⟨ya, yc, hy⟩ := own_slice HO.out
          have R1 : Hid (IOwn wr w.heap.size (.slice ya ((NF.map (·.1)).take j).length yc) (NF.map (·.1))) := by
            have h1 := HO.out
            rw [hy] at h1
            rw [hall] at h1 ⊢
            exact own_lower h1 hb3
          have R2 : Hid (Below w.heap.size w wr) := HB3.out.trans (HB.out.mono hb3)
          subst hy
          clear HO hall
          generalize ((NF.map (·.1)).take j).length = tl at *
          go_wp2
          go_ret
          rw [HNF.out]
          exact ⟨_, rfl, by first | exact R1.out | (have := R1.out; rw [hgg] at this; exact this), by first | exact R2.out | (have := R2.out; rw [hgg] at this; exact this)⟩
end Go.Proofs.YtfknljjbdofjjabGreatDoor.nrm
end

section
/- How slices of numbers and of items that came in as arguments read. -/
set_option linter.unusedVariables false
set_option linter.unusedSimpArgs false
namespace Go.Proofs.YtfknljjbdofjjabGreatDoor.nrm
open Go.ChangeShapes Go.WideShapes Go.ChangeAt Go.RowKit Go.Deep
open Go.Proofs.YtfknljjbdofjjabGreatDoor.prp (IV okI)

/-- The argument v reads as the numbers l. -/
def ArgC (W : World) (v : Value) (l : List Int) : Prop := ∃ ao cap, v = .slice ao l.length cap ∧ (0 < l.length → ∃ b o, ao = some ⟨b, o, none⟩ ∧ ∀ j, j < l.length → W.cell? ⟨b, o + j, none⟩ = some (.int .i64 (l.getD j 0))) ∧ (∀ r ∈ l, okI r) ∧ l.length ≤ cap ∧ cap ≤ 9223372036854775807 ∧ (ao = none → cap = 0)
set_option maxRecDepth 100000 in
theorem open_ints {H : Type} {enc : TypeId × Value → H} {W : World} {base : Nat} {v : Value} {d : DataW H} {p : List MemPlace}
    (hv : Value.okWide Tryz.prog W .any base 22 v) (h : DataW.Trod enc Tryz.prog W 0 (fun _ => true) true 22 v d p) :
    ∃ l : List Int, ArgC W v l := by
  obtain ⟨ao, n, cap, rfl⟩ := okWide_slice Tryz.underlying22 hv
  obtain ⟨fuel, hf⟩ := h
  rcases open_slice Tryz.underlying22 hf with ⟨hcs, _⟩ | ⟨a, len, cap', m, k, D, Pl, hcs, _, hl, hm, hmm, hx, hel⟩
  · simp [Value.cells] at hcs
    obtain ⟨rfl, rfl, rfl⟩ := hcs
    exact ⟨[], none, 0, rfl, fun h => by simp at h, fun r h => (by cases h), by simp, by omega, fun _ => rfl⟩
  · simp [Value.cells] at hcs
    obtain ⟨rfl, rfl, rfl⟩ := hcs
    simp at hmm
    subst hmm
    have c1 : Tryz.prog.cellsOf 3 = 1 := by kernel_rfl
    have each : ∀ i, i < n → ∃ r : Int, W.cell? (a.add i) = some (.int .i64 r) ∧ okI r := by
      intro i hi
      obtain ⟨cs', h1, h2⟩ := hel i (by omega)
      rw [c1] at h1
      obtain ⟨_, hlen, hcell⟩ := World.cells?_some h1
      match cs', hlen with
      | [v0], _ =>
        have e0 := hcell 0 (by omega)
        rw [Go.Deep.add_add] at e0
        obtain ⟨x0, hv0, hy0, hw0⟩ := DataW.trod_int Tryz.underlying3 h2
        obtain rfl : v0 = .int .i64 x0 := by simpa using hv0
        exact ⟨x0, by simpa using e0, by simpa [okI, Lit.wf, IntKind.min, IntKind.max, IntKind.signed, IntKind.bits] using hw0⟩
    obtain ⟨Rf, hR⟩ := choose_lt each
    unfold maxLen at hm
    refine ⟨(List.range n).map Rf, some a, _, by rw [List.length_map, List.length_range], fun h00 => ?_, fun r hr => ?_, by simpa using hl, by omega, fun e => by cases e⟩
    · have h0 : 0 < n := by simpa using h00
      obtain ⟨b, off, spot⟩ := a
      have hspot : spot = none := by simpa [Addr.add] using World.cell?_spot (hR 0 h0).1
      subst hspot
      refine ⟨b, off, rfl, fun i hi => ?_⟩
      have hil : i < n := by simpa using hi
      have q1 := (hR i hil).1
      rw [Addr.add_lit] at q1
      rw [q1, List.getD_eq_getElem?_getD, List.getElem?_map, List.getElem?_range hil]
      rfl
    · obtain ⟨i, hi, rfl⟩ := List.mem_map.1 hr
      exact (hR i (List.mem_range.1 hi)).2
theorem ArgC.iv {W : World} {v : Value} {l : List Int} (h : ArgC W v l) : IV W v l := by
  obtain ⟨ao, cap, rfl, h, _⟩ := h
  exact ⟨ao, cap, rfl, h⟩
/-- The argument's first n numbers. -/
theorem ArgC.take {W : World} {ao : Option Addr} {cap len : Nat} {l : List Int} (h : ArgC W (.slice ao len cap) l) (n : Nat) (hn : n ≤ l.length) : IV W (.slice ao n cap) (l.take n) := by
  obtain ⟨a, c, e, hc, _⟩ := h
  cases e
  have hl : (l.take n).length = n := by rw [List.length_take]; omega
  refine ⟨_, _, by rw [hl], fun h0 => ?_⟩
  obtain ⟨b, o, e, hx⟩ := hc (by omega)
  refine ⟨b, o, e, fun j hj => ?_⟩
  rw [hx j (by omega), List.getD_eq_getElem?_getD, List.getD_eq_getElem?_getD, List.getElem?_take_of_lt (by omega)]
end Go.Proofs.YtfknljjbdofjjabGreatDoor.nrm
end
