/- The walks of EditSplit and EditRebuilds. -/
import Derived.Test.YtfnndnlhdfjggaaEdtSame
import Derived.Test.YtfnndnlhdfjggaaEdtRSplit
import Derived.Test.YtfnndnlhdfjggaaEdtAwake
set_option linter.unusedVariables false
set_option linter.unusedSimpArgs false
namespace Go.Proofs.Ytfnndnlhdfjggaa.edt
open Go.RowKit

theorem RB.sv {w : World} {B : Nat} {ts : List Tx} {ao : Option Addr} {n cap : Nat} (h : RB w B (.slice ao n cap) ts) (hn : n = ts.length) : SV w B ao n cap := by
  subst hn
  have hrow := h.row
  rcases hrow.2 with ⟨e, h0⟩ | ⟨g, cap', cur, e, _, hgg, hc, hm, _⟩
  · simp only [Value.slice.injEq] at e
    obtain ⟨rfl, _, rfl⟩ := e
    exact ⟨by omega, by omega, .inl h0⟩
  · simp only [Value.slice.injEq, true_and] at e
    obtain ⟨rfl, rfl⟩ := e
    unfold maxLen at hm
    refine ⟨hc, by omega, .inr ⟨g, 0, rfl, fun i hi => ?_⟩⟩
    have ht := h.txt _ (List.getElem_mem hi)
    have hcell : w.cell? ⟨g, 0 + i, none⟩ = some (ts[i]'hi).1 := by
      rw [Nat.zero_add, hrow.cellAt i (by omega), List.getElem?_map, List.getElem?_eq_getElem hi, Option.map_some]
    have ht' := ht
    rcases ht.2 with ⟨e1, h1⟩ | ⟨g1, c1, cur1, e1, hb1, hg1, hc1, hm1, _⟩
    · exact ⟨none, 0, 0, by rw [hcell, e1], by omega, .inl rfl⟩
    · unfold maxLen at hm1
      unfold OB at ht'
      rw [e1] at ht'
      refine ⟨_, _, _, by rw [hcell, e1], by omega, .inr ⟨g1, 0, rfl, hb1, fun j hj => ⟨?_, ht'.frozenAt _⟩⟩⟩
      rw [Nat.zero_add, ht'.cellAt j (by omega)]
      exact ⟨(ts[i]'hi).2[j], by simp [hj]⟩
theorem cutL_byt (b : List Int) (hb : Byt b) : ∀ (l : List Sp) (e : Nat), ∀ t ∈ cutL b e l, Byt t
  | [], e, t, ht => by
    obtain rfl : t = b.drop e := by simpa [cutL] using ht
    exact fun x hx => hb x (List.mem_of_mem_drop hx)
  | p :: r, e, t, ht => by
    rcases List.mem_cons.1 ht with rfl | ht
    · exact fun x hx => hb x (List.mem_of_mem_drop (List.mem_of_mem_take hx))
    · exact cutL_byt b hb r _ t ht
theorem cutL_length (b : List Int) : ∀ (l : List Sp) (e : Nat), (cutL b e l).length = l.length + 1
  | [], e => rfl
  | p :: r, e => by rw [cutL, List.length_cons, cutL_length b r, List.length_cons]

set_option maxHeartbeats 2000000 in
theorem split_w0 (ao : Option Addr) (n cap : Nat) (b : List Int) (aS : Option Addr) (nS cS : Nat) (l : List Sp) (w : World) (hB : BS w ao n cap b) (hS : SS w aS nS cS l) (h : apB n 0 l = false) (hn : n ≤ 1048576) (hnS : nS ≤ 1048576) :
    Calls Try.prog 5 #[.slice ao n cap, .slice aS nS cS] w fun e w' => e = .returned (.bool true) ∧ Below w.heap.size w w' := by
  have C := clone_any ao n cap b w hB (by omega)
  have HB : Hid (BS w ao n cap b) := hB
  have HS : Hid (SS w aS nS cS l) := hS
  have HA : Hid (apB n 0 l = false) := h
  clear hB hS h
  go_enter Try.func5, Try.ntmps5
  go_wp2_with fail
  refine C.mono ?_
  rintro e w1 ⟨gv, rfl, hO, hb1⟩
  obtain ⟨ga, gc, rfl, hG⟩ := hO.bs HB.out.rg
  rw [HB.out.len] at hG ⊢
  have HG1 : Hid (BS w1 ga n gc b) := hG
  have S1 := split_no ga n gc aS nS cS l w1 (HS.out.below hb1) HA.out
  clear C hO hG
  go_wp2_with fail
  refine S1.mono ?_
  rintro e w2 ⟨rfl, hb2⟩
  have hb2' := hb1.trans (hb2.mono hb1.size)
  have HG2 : Hid (BS w2 ga n gc b) := HG1.out.below hb2
  have S2 := rsplit_no ao n cap b aS nS cS l w2 (HB.out.below hb2') (HS.out.below hb2') HA.out hn hnS
  clear S1 HG1 hb2 hb1
  go_wp2_with fail
  refine S2.mono ?_
  rintro e w3 ⟨rfl, hb3⟩
  have hb3' := hb2'.trans (hb3.mono hb2'.size)
  have HG3 : Hid (BS w3 ga n gc b) := HG2.out.below hb3
  have SM := same_any none none 0 0 0 [] w3 ⟨rfl, Nat.le_refl _, by omega, .inl rfl⟩ ⟨rfl, Nat.le_refl _, by omega, .inl rfl⟩
  have SP := spoil_any w3.heap.size none 0 0 w3 ⟨Nat.le_refl _, by omega, .inl rfl⟩
  clear S2 HG2 hb3 hb2'
  go_wp2_with (go_at_call 20; refine SM.mono ?_; rintro e w' ⟨rfl, hw⟩; subst hw)
  refine SP.mono ?_
  rintro e w4 ⟨rfl, hb4⟩
  have hb4' := hb3'.trans (hb4.mono hb3'.size)
  have EQ := beq_same _ _ _ w4 (HG3.out.below hb4).bts (HB.out.below hb4').bts
  have AW := awake_any w4
  clear SP SM HG3 hb4 hb3'
  go_wp2_with (first
    | (go_at_call 12; refine EQ.mono ?_; rintro e w' ⟨rfl, hw⟩; subst hw)
    | (go_at_call 14; refine AW.mono ?_; rintro e w' ⟨rfl, hbel⟩))
  go_ret
  exact ⟨rfl, hb4'.trans (Below.mono (by assumption) hb4'.size)⟩

set_option maxHeartbeats 2000000 in
theorem split_w1 (ao : Option Addr) (n cap : Nat) (b : List Int) (aS : Option Addr) (nS cS : Nat) (l : List Sp) (w : World) (hB : BS w ao n cap b) (hS : SS w aS nS cS l) (h : apB n 0 l = true) (hn : n ≤ 1048576) (hnS : nS ≤ 1048576) :
    Calls Try.prog 5 #[.slice ao n cap, .slice aS nS cS] w fun e w' => e = .returned (.bool true) ∧ Below w.heap.size w w' := by
  have C := clone_any ao n cap b w hB (by omega)
  have HB : Hid (BS w ao n cap b) := hB
  have HS : Hid (SS w aS nS cS l) := hS
  have HA : Hid (apB n 0 l = true) := h
  have HBy : Hid (Byt b) := mem_range hB.rg
  clear hB hS h
  go_enter Try.func5, Try.ntmps5
  go_wp2_with fail
  refine C.mono ?_
  rintro e w1 ⟨gv, rfl, hO, hb1⟩
  obtain ⟨ga, gc, rfl, hG⟩ := hO.bs HB.out.rg
  rw [HB.out.len] at hG ⊢
  have HG1 : Hid (BS w1 ga n gc b) := hG
  have S1 := split_yes ga n gc b aS nS cS l w1 hG (HS.out.below hb1) HA.out hn hnS
  clear C hO hG
  go_wp2_with fail
  refine S1.mono ?_
  rintro e w2 ⟨v1, t1, rfl, hR1, he1, hb2⟩
  have hb2' := hb1.trans (hb2.mono hb1.size)
  have S2 := rsplit_yes ao n cap b aS nS cS l w2 (HB.out.below hb2') (HS.out.below hb2') HA.out hn hnS
  have HR1 : Hid (RB w2 w1.heap.size v1 t1) := hR1
  have HE1 : Hid (t1.map Prod.snd = cutL b 0 l) := he1
  have HW12 : Hid (w.heap.size ≤ w1.heap.size) := hb1.size
  have HB12 : Hid (Below w1.heap.size w1 w2) := hb2
  have HB01 : Hid (Below w.heap.size w w1) := hb1
  clear S1 hb2 hb1 hR1 he1
  obtain ⟨x1, y1, z1, rfl⟩ : ∃ a m c, v1 = Value.slice a m c := by obtain ⟨a, c, e⟩ := own_slice HR1.out.row; exact ⟨a, _, c, e⟩
  go_wp2_with fail
  refine S2.mono ?_
  rintro e w3 ⟨v2, t2, rfl, hR2, he2, hb3⟩
  have HR13 : Hid (RB w3 w1.heap.size (.slice x1 y1 z1) t1) := HR1.out.below hb3
  have HB13 : Hid (Below w1.heap.size w1 w3) := HB12.out.trans (hb3.mono HB12.out.size)
  have hl : t2.length = t1.length := by
    have h1 := congrArg List.length he2
    have h2 := congrArg List.length HE1.out
    rw [List.length_map] at h1 h2
    rw [h1, h2]
  have hby : ∀ (t : List Tx), t.map Prod.snd = cutL b 0 l → ∀ q ∈ t, Byt q.2 := fun t e q hq => cutL_byt b HBy.out l 0 q.2 (by rw [← e]; exact List.mem_map.2 ⟨q, hq, rfl⟩)
  obtain ⟨p1, q1, e1, T1⟩ := HR13.out.tv (hby t1 HE1.out)
  cases e1
  obtain ⟨p2, q2, rfl, T2⟩ := hR2.tv (hby t2 he2)
  rw [hl] at T2 ⊢
  rw [HE1.out] at T1
  rw [he2] at T2
  have SM := same_any x1 p2 t1.length z1 q2 (cutL b 0 l) w3 T1 T2
  have SP := spoil_any w1.heap.size x1 t1.length z1 w3 (HR13.out.sv rfl)
  clear S2 HR1 hR2 he2 hb3 T1 T2 hl HB12 hby
  generalize t1.length = N at *
  go_wp2_with (go_at_call 20; refine SM.mono ?_; rintro e w' ⟨rfl, hw⟩; subst hw)
  refine SP.mono ?_
  rintro e w4 ⟨rfl, hb4⟩
  have hb14 : Below w1.heap.size w1 w4 := HB13.out.trans hb4
  have hb4' := HB01.out.trans (hb14.mono HW12.out)
  have EQ := beq_same _ _ _ w4 (HG1.out.below hb14).bts (HB.out.below hb4').bts
  have AW := awake_any w4
  clear SP SM HG1 hb4 hb14 HR13
  go_wp2_with (first
    | (go_at_call 12; refine EQ.mono ?_; rintro e w' ⟨rfl, hw⟩; subst hw)
    | (go_at_call 14; refine AW.mono ?_; rintro e w' ⟨rfl, hbel⟩))
  go_ret
  exact ⟨rfl, hb4'.trans (Below.mono (by assumption) hb4'.size)⟩
theorem split_walk (ao : Option Addr) (n cap : Nat) (b : List Int) (aS : Option Addr) (nS cS : Nat) (l : List Sp) (w : World) (hB : BS w ao n cap b) (hS : SS w aS nS cS l) (hn : n ≤ 1048576) (hnS : nS ≤ 1048576) :
    Calls Try.prog 5 #[.slice ao n cap, .slice aS nS cS] w fun e w' => e = .returned (.bool true) ∧ Below w.heap.size w w' := by
  cases h : apB n 0 l with
  | false => exact split_w0 ao n cap b aS nS cS l w hB hS h hn hnS
  | true => exact split_w1 ao n cap b aS nS cS l w hB hS h hn hnS
end Go.Proofs.Ytfnndnlhdfjggaa.edt
