/- Texts that the proof leans on, one behind the other. -/
import Derived.Test.YtbdojobplhpnbaaGreatDoorBdPrp2
import Derived.ProofKit
import Derived.OpenShut
import Derived.Deep.DeepHandedRow
import Derived.ChangeMaps5
import Derived.Deep.Strs
import Derived.Test.YtbdojobplhpnbaaGreatDoorBdClu2
import Derived.Test.YtbdojobplhpnbaaGreatDoorBdClu4
import Derived.Test.YtbdojobplhpnbaaGreatDoorBdClu1
import Derived.ChangeSame
import Derived.LaidSub
import Derived.Lib.LaidTab
import Derived.Test.YtbdojobplhpnbaaGreatDoorBdPrp6
import Derived.Laws.AppendOwnNone
import Derived.Lib.AppendZerosOnto
import Derived.Lib.SliceRun
import Derived.Deep.AppendLies

section
/- How slices of numbers that came in as arguments read. -/
set_option linter.unusedVariables false
set_option linter.unusedSimpArgs false
namespace Go.Proofs.YtbdojobplhpnbaaGreatDoor.clu
open Go.ChangeShapes Go.WideShapes Go.ChangeAt Go.RowKit Go.Deep
open Go.Proofs.YtbdojobplhpnbaaGreatDoor.prp (IV okI)

/-- The argument v reads as the numbers l. -/
def ArgC (W : World) (v : Value) (l : List Int) : Prop := ∃ ao cap, v = .slice ao l.length cap ∧ (0 < l.length → ∃ b o, ao = some ⟨b, o, none⟩ ∧ ∀ j, j < l.length → W.cell? ⟨b, o + j, none⟩ = some (.int .i64 (l.getD j 0))) ∧ (∀ r ∈ l, okI r) ∧ l.length ≤ cap ∧ cap ≤ 9223372036854775807 ∧ (ao = none → cap = 0)
set_option maxRecDepth 100000 in
theorem open_ints {H : Type} {enc : TypeId × Value → H} {W : World} {base : Nat} {v : Value} {d : DataW H} {p : List MemPlace}
    (hv : Value.okWide Tryz.prog W .any base 22 v) (h : DataW.Trod enc Tryz.prog W 0 (fun _ => true) true 22 v d p) :
    ∃ l : List Int, ArgC W v l := by
  obtain ⟨ao, n, cap, rfl⟩ := okWide_slice Tryz.underlying22 hv
  obtain ⟨fuel, hf⟩ := h
  rcases open_slice Tryz.underlying22 hf with ⟨hcs, _⟩ | ⟨a, len, cap', m, k, D, Pl, hcs, _, hl, hm, hmm, hx, hel⟩
  · simp [Value.cells] at hcs
    obtain ⟨rfl, rfl, rfl⟩ := hcs
    exact ⟨[], none, 0, rfl, fun h => by simp at h, fun r h => (by cases h), by simp, by omega, fun _ => rfl⟩
  · simp [Value.cells] at hcs
    obtain ⟨rfl, rfl, rfl⟩ := hcs
    simp at hmm
    subst hmm
    have c1 : Tryz.prog.cellsOf 3 = 1 := by kernel_rfl
    have each : ∀ i, i < n → ∃ r : Int, W.cell? (a.add i) = some (.int .i64 r) ∧ okI r := by
      intro i hi
      obtain ⟨cs', h1, h2⟩ := hel i (by omega)
      rw [c1] at h1
      obtain ⟨_, hlen, hcell⟩ := World.cells?_some h1
      match cs', hlen with
      | [v0], _ =>
        have e0 := hcell 0 (by omega)
        rw [Go.Deep.add_add] at e0
        obtain ⟨x0, hv0, hy0, hw0⟩ := DataW.trod_int Tryz.underlying3 h2
        obtain rfl : v0 = .int .i64 x0 := by simpa using hv0
        exact ⟨x0, by simpa using e0, by simpa [okI, Lit.wf, IntKind.min, IntKind.max, IntKind.signed, IntKind.bits] using hw0⟩
    obtain ⟨Rf, hR⟩ := choose_lt each
    unfold maxLen at hm
    refine ⟨(List.range n).map Rf, some a, _, by rw [List.length_map, List.length_range], fun h00 => ?_, fun r hr => ?_, by simpa using hl, by omega, fun e => by cases e⟩
    · have h0 : 0 < n := by simpa using h00
      obtain ⟨b, off, spot⟩ := a
      have hspot : spot = none := by simpa [Addr.add] using World.cell?_spot (hR 0 h0).1
      subst hspot
      refine ⟨b, off, rfl, fun i hi => ?_⟩
      have hil : i < n := by simpa using hi
      have q1 := (hR i hil).1
      rw [Addr.add_lit] at q1
      rw [q1, List.getD_eq_getElem?_getD, List.getElem?_map, List.getElem?_range hil]
      rfl
    · obtain ⟨i, hi, rfl⟩ := List.mem_map.1 hr
      exact (hR i (List.mem_range.1 hi)).2
theorem ArgC.iv {W : World} {v : Value} {l : List Int} (h : ArgC W v l) : IV W v l := by
  obtain ⟨ao, cap, rfl, h, _⟩ := h
  exact ⟨ao, cap, rfl, h⟩
/-- The argument's first n numbers. -/
theorem ArgC.take {W : World} {ao : Option Addr} {cap len : Nat} {l : List Int} (h : ArgC W (.slice ao len cap) l) (n : Nat) (hn : n ≤ l.length) : IV W (.slice ao n cap) (l.take n) := by
  obtain ⟨a, c, e, hc, _⟩ := h
  cases e
  have hl : (l.take n).length = n := by rw [List.length_take]; omega
  refine ⟨_, _, by rw [hl], fun h0 => ?_⟩
  obtain ⟨b, o, e, hx⟩ := hc (by omega)
  refine ⟨b, o, e, fun j hj => ?_⟩
  rw [hx j (by omega), List.getD_eq_getElem?_getD, List.getD_eq_getElem?_getD, List.getElem?_take_of_lt (by omega)]
end Go.Proofs.YtbdojobplhpnbaaGreatDoor.clu
end

section
/- awake: a mark stands with its letter. -/
set_option linter.unusedVariables false
set_option linter.unusedSimpArgs false
namespace Go.Proofs.YtbdojobplhpnbaaGreatDoor.clu
open Go.RowKit Go.Maps
open Go.Proofs.YtbdojobplhpnbaaGreatDoor.lin Go.Proofs.YtbdojobplhpnbaaGreatDoor.prp

/-- The variables that are read. -/
structure CEnv (w : World) : Prop where
  env : Env w
  syl : Syl w
theorem CEnv.below {w w' : World} (h : CEnv w) (hb : Below w.heap.size w w') : CEnv w' := ⟨h.env.below hb, h.syl.below hb⟩
theorem iown_txt {w : World} {base n : Nat} {v : Value} {l : List Int} (h : IOwn w base v l) (hl : l.length = n) (hok : ∀ r ∈ l, okI r) (hn : n ≤ 1000000) : ∃ ao cap, v = .slice ao n cap ∧ Txt w ao n cap l := by
  subst hl
  have hiv := h.iv
  rcases h.2 with ⟨rfl, h0⟩ | ⟨g, cap, cur, rfl, hg, hgg, hc, hm, hs, ht⟩
  · refine ⟨none, 0, by rw [h0], ?_⟩
    rw [h0] at hn ⊢
    exact ⟨hiv, Nat.le_refl _, by omega, hok, by omega⟩
  · exact ⟨_, cap, rfl, hiv, hc, by unfold maxLen at hm; omega, hok, hn⟩
theorem awake_edges : edgeP [101, 769] 0 = true ∧ edgeP [101, 769] 1 = false ∧ edgeP [101, 769] 2 = true := by decide +kernel
set_option maxHeartbeats 2000000 in
set_option maxRecDepth 1000000 in
theorem awake_any (w : World) (E : CEnv w) : Calls Tryz.prog 15 #[] w fun e w' => e = .returned (.bool true) ∧ Below w.heap.size w w' := by
  have C := load_any w E.env
  have HE : Hid (CEnv w) := E
  clear E
  go_enter Tryz.func15, Tryz.ntmps15
  go_wp2_with fail
  refine C.mono ?_
  rintro e w1 ⟨t, rfl, ht, b1⟩
  clear C
  have B1 : Below w1.heap.size w1 (w1.alloc (.cells #[.int .i64 101, .int .i64 769] 3)) := (Below.refl _ w1).alloc (Nat.le_refl _) _
  have hown : IOwn (w1.alloc (.cells #[.int .i64 101, .int .i64 769] 3)) 0 (.slice (some ⟨w1.heap.size, 0, none⟩) 2 2) [101, 769] := World.ownsRow_lit (base := 0) (e := 3) (size := 1) w1 #[.int .i64 101, .int .i64 769] 2 (Nat.zero_le _) (by unfold maxLen; omega) rfl
  have HTX : Hid (Txt (w1.alloc (.cells #[.int .i64 101, .int .i64 769] 3)) (some ⟨w1.heap.size, 0, none⟩) 2 2 [101, 769]) := ⟨hown.iv, by decide, by decide, by unfold okI; decide, by decide⟩
  have HT : Hid (Tabs (w1.alloc (.cells #[.int .i64 101, .int .i64 769] 3)) t) := ht.below B1
  have HB1 : Hid (Below w.heap.size w (w1.alloc (.cells #[.int .i64 101, .int .i64 769] 3))) := b1.trans (B1.mono b1.size)
  clear b1 B1 ht hown
  have C := edge_t t (some ⟨w1.heap.size, 0, none⟩) 2 2 [101, 769] 0 _ HT.out (HE.out.below HB1.out).syl HTX.out
  rw [awake_edges.1] at C
  go_wp2_with fail
  refine C.mono ?_
  rintro e w2 ⟨rfl, b2⟩
  clear C
  have HB2 : Hid (Below w.heap.size w w2) := HB1.out.trans (b2.mono HB1.out.size)
  have HT2 : Hid (Tabs w2 t) := HT.out.below b2
  have HTX2 : Hid (Txt w2 (some ⟨w1.heap.size, 0, none⟩) 2 2 [101, 769]) := HTX.out.below b2
  clear b2 HB1 HT HTX
  have C := edge_t t (some ⟨w1.heap.size, 0, none⟩) 2 2 [101, 769] 1 _ HT2.out (HE.out.below HB2.out).syl HTX2.out
  rw [awake_edges.2.1] at C
  go_wp2_with fail
  refine C.mono ?_
  rintro e w3 ⟨rfl, b3⟩
  clear C
  have HB3 : Hid (Below w.heap.size w w3) := HB2.out.trans (b3.mono HB2.out.size)
  have HT3 : Hid (Tabs w3 t) := HT2.out.below b3
  have HTX3 : Hid (Txt w3 (some ⟨w1.heap.size, 0, none⟩) 2 2 [101, 769]) := HTX2.out.below b3
  clear b3 HB2 HT2 HTX2
  have C := edge_t t (some ⟨w1.heap.size, 0, none⟩) 2 2 [101, 769] 2 _ HT3.out (HE.out.below HB3.out).syl HTX3.out
  rw [awake_edges.2.2] at C
  go_wp2_with fail
  refine C.mono ?_
  rintro e w4 ⟨rfl, b4⟩
  clear C
  have HB4 : Hid (Below w.heap.size w w4) := HB3.out.trans (b4.mono HB3.out.size)
  clear b4 HB3 HT3 HTX3
  go_wp2
  go_ret
  exact ⟨rfl, HB4.out⟩
end Go.Proofs.YtbdojobplhpnbaaGreatDoor.clu
end

section
/- ClusterEdges, ClusterNext, ClusterWalks: the walks. -/
set_option linter.unusedVariables false
set_option linter.unusedSimpArgs false
namespace Go.Proofs.YtbdojobplhpnbaaGreatDoor.clu
open Go.RowKit Go.Maps
open Go.Proofs.YtbdojobplhpnbaaGreatDoor.lin Go.Proofs.YtbdojobplhpnbaaGreatDoor.prp

theorem next_ex {l : List Int} {i : Int} (h0 : 0 ≤ i) (h1 : i < l.length) : ∃ m, IsNext l i m := by
  have key : ∀ (d : Nat) (j : Int), i < j → j ≤ l.length → (l.length : Int) - j = d → (∀ k, i < k → k < j → edgeP l k = false) → ∃ m, IsNext l i m := by
    intro d
    induction d with
    | zero =>
      intro j hj1 hj2 hd hno
      have hj : j = l.length := by omega
      exact ⟨j, hj1, hj2, by rw [hj]; exact edge_end (by omega), hno⟩
    | succ d ih =>
      intro j hj1 hj2 hd hno
      cases he : edgeP l j with
      | true => exact ⟨j, hj1, hj2, he, hno⟩
      | false =>
        refine ih (j + 1) (by omega) (by omega) (by omega) (fun k k1 k2 => ?_)
        by_cases e : k = j
        · rw [e]; exact he
        · exact hno k k1 (by omega)
  exact key ((l.length : Int) - (i + 1)).toNat (i + 1) (by omega) (by omega) (by omega) (fun k k1 k2 => by omega)
theorem clone_any (v : Value) (l : List Int) (w : World) (h : IV w v l) (hn : l.length ≤ 1000000) : Calls Tryz.prog 11 #[v] w fun e w' => ∃ v', e = .returned v' ∧ IOwn w' w.heap.size v' l ∧ Below w.heap.size w w' := iclone_any v l w h hn
set_option maxHeartbeats 4000000 in
set_option maxRecDepth 1000000 in
theorem edges_walk (v : Value) (l : List Int) (w : World) (h : ArgC w v l) (E : CEnv w) : Calls Tryz.prog 3 #[v] w fun e w' => e = .returned (.bool true) ∧ Below w.heap.size w w' := by
  have HE : Hid (CEnv w) := E
  have HA : Hid (ArgC w v l) := h
  obtain ⟨ao, cap, rfl, hcells, hok, hcap, hmax, hnil⟩ := h
  obtain ⟨n, hn⟩ : ∃ n, min l.length 60 = n := ⟨_, rfl⟩
  have hnl : n ≤ l.length := by omega
  have hn60 : n ≤ 60 := by omega
  have HLN : Hid ((l.take n).length = n) := by show _ = _; rw [List.length_take]; omega
  have HOK : Hid (∀ r ∈ l.take n, okI r) := fun x hx => hok x (List.mem_of_mem_take hx)
  have HV : Hid (Txt w ao n cap (l.take n)) := ⟨HA.out.take n hnl, by omega, hmax, HOK.out, by omega⟩
  have C := load_any w E.env
  have hmin : min (l.length : Int) 60 = (n : Int) := by omega
  have hmin2 : (if (l.length : Int) < 60 then (l.length : Int) else 60) = (n : Int) := by split <;> omega
  have hmin3 : (if (60 : Int) < (l.length : Int) then 60 else (l.length : Int)) = (n : Int) := by split <;> omega
  have hmin4 : (if (l.length : Int) ≤ 60 then (l.length : Int) else 60) = (n : Int) := by split <;> omega
  have hncap : (n : Int) ≤ (cap : Int) := by omega
  have hn0 : (0 : Int) ≤ (n : Int) := by omega
  generalize hLN : l.take n = LN at *
  generalize l.length = ll at *
  clear hcells hok hLN HA E hnil hn
  go_enter Tryz.func3, Tryz.ntmps3
  go_wp2_with fail
  refine C.mono ?_
  rintro e w1 ⟨t, rfl, ht, b1⟩
  clear C
  have HT1 : Hid (Tabs w1 t) := ht
  clear ht
  have C := rload_any w1
  go_wp2_with fail
  refine C.mono ?_
  rintro e w2 ⟨u, rfl, hu, b2⟩
  clear C
  have HB2 : Hid (Below w.heap.size w w2) := b1.trans (b2.mono b1.size)
  have HT2 : Hid (Tabs w2 t) := HT1.out.below b2
  have HU2 : Hid (RTabs w2 u) := hu
  clear hu b1 b2 HT1
  have C := clone_any (.slice ao n cap) LN w2 (HV.out.below HB2.out).iv (by rw [HLN.out]; omega)
  go_wp2_with fail
  refine C.mono ?_
  rintro e w3 ⟨gv, rfl, hg, b3⟩
  clear C
  obtain ⟨ga, gc, rfl, hgt⟩ := iown_txt hg HLN.out HOK.out (by omega)
  have HG3 : Hid (Txt w3 ga n gc LN) := hgt
  have HB3 : Hid (Below w.heap.size w w3) := HB2.out.trans (b3.mono HB2.out.size)
  have HT3 : Hid (Tabs w3 t) := HT2.out.below b3
  have HU3 : Hid (RTabs w3 u) := HU2.out.below b3
  clear hg hgt b3 HB2 HT2 HU2
  have wn1 : IntKind.i64.wrap ((n : Int) + 1) = (n : Int) + 1 := by rw [IntKind.wrap_i64]; omega
  go_wp2
  go_loopw [6] (fun i wr => ∃ j : Int, -1 ≤ j ∧ j ≤ (n : Int) + 2 ∧ i = .int .i64 j ∧ Hid (Below w3.heap.size w3 wr)) (fun i _ => ((n : Int) + 2 - RowKit.intOf i).toNat)
  case atStart => exact ⟨-1, by omega, by omega, rfl, Below.refl _ _⟩
  case round =>
    obtain ⟨j, hj1, hj2, rfl, HB⟩ := hrel
    by_cases hlt : j ≤ (n : Int) + 1
    · have wj : IntKind.i64.wrap (j + 1) = j + 1 := by rw [IntKind.wrap_i64]; omega
      obtain ⟨R, hR⟩ : ∃ R, edgeP LN j = R := ⟨_, rfl⟩
      have C := edge_t t ga n gc LN j wr (HT3.out.below HB.out) (HE.out.below (HB3.out.trans (HB.out.mono HB3.out.size))).syl (HG3.out.below HB.out)
      have HD : Hid (∀ W, Below w3.heap.size w3 W → Calls Tryz.prog 13 #[.pointer (some ⟨u, 0, none⟩), .slice ao n cap, .int .i64 j] W fun e w' => e = .returned (.bool R) ∧ Below W.heap.size W w') := fun W hb => by
        rw [← hR]
        exact redge_t u ao n cap LN j W (HU3.out.below hb) (HV.out.below (HB3.out.trans (hb.mono HB3.out.size)))
      rw [hR] at C
      have hRR : (R != R) = false := by simp
      clear hR
      go_wp2_with fail
      refine C.mono ?_
      rintro e x1 ⟨rfl, bx⟩
      clear C
      have HB4 : Hid (Below w3.heap.size w3 x1) := HB.out.trans (bx.mono HB.out.size)
      have C := HD.out x1 HB4.out
      clear HB bx HD
      go_wp2_with fail
      refine C.mono ?_
      rintro e x2 ⟨rfl, bx⟩
      clear C
      have HB5 : Hid (Below w3.heap.size w3 x2) := HB4.out.trans (bx.mono HB4.out.size)
      clear HB4 bx
      go_wp2
      exact ⟨⟨j + 1, by omega, by omega, rfl, HB5⟩, by simp [RowKit.intOf]; omega⟩
    · have hge : ¬ j ≤ (n : Int) + 1 := hlt
      have HBW : Hid (Below w.heap.size w wr) := HB3.out.trans (HB.out.mono HB3.out.size)
      have C := iequal_any (.slice ga n gc) (.slice ao n cap) LN wr (HG3.out.below HB.out).iv (HV.out.below HBW.out).iv (by rw [HLN.out]; omega)
      go_wp2_with fail
      refine C.mono ?_
      rintro e x1 ⟨rfl, bx⟩
      clear C
      have HB4 : Hid (Below w.heap.size w x1) := HBW.out.trans (bx.mono HBW.out.size)
      have C := awake_any x1 (HE.out.below HB4.out)
      clear HB bx HBW
      go_wp2_with fail
      refine C.mono ?_
      rintro e x2 ⟨rfl, bx⟩
      clear C
      have HB5 : Hid (Below w.heap.size w x2) := HB4.out.trans (bx.mono HB4.out.size)
      clear HB4 bx
      go_wp2
      go_ret
      exact ⟨rfl, HB5.out⟩
set_option maxHeartbeats 4000000 in
set_option maxRecDepth 1000000 in
theorem cnext_walk (v : Value) (l : List Int) (i : Int) (w : World) (h : ArgC w v l) (E : CEnv w) : Calls Tryz.prog 4 #[v, .int .i64 i] w fun e w' => e = .returned (.bool true) ∧ Below w.heap.size w w' := by
  have HE : Hid (CEnv w) := E
  have HA : Hid (ArgC w v l) := h
  obtain ⟨ao, cap, rfl, hcells, hok, hcap, hmax, hnil⟩ := h
  obtain ⟨n, hn⟩ : ∃ n, min l.length 60 = n := ⟨_, rfl⟩
  have hnl : n ≤ l.length := by omega
  have hn60 : n ≤ 60 := by omega
  have HOK : Hid (∀ r ∈ l.take n, okI r) := fun x hx => hok x (List.mem_of_mem_take hx)
  have HV : Hid (Txt w ao n cap (l.take n)) := ⟨HA.out.take n hnl, by omega, hmax, HOK.out, by omega⟩
  have C := load_any w E.env
  have HNX : Hid (∃ m, (∀ (W : World) t, Tabs W t → Below w.heap.size w W → Calls Tryz.prog 16 #[.pointer (some ⟨t, 0, none⟩), .slice ao n cap, .int .i64 i] W fun e w' => e = .returned (.int .i64 m) ∧ Below W.heap.size W w') ∧ (∀ (W : World) u, RTabs W u → Below w.heap.size w W → Calls Tryz.prog 17 #[.pointer (some ⟨u, 0, none⟩), .slice ao n cap, .int .i64 i] W fun e w' => e = .returned (.int .i64 m) ∧ Below W.heap.size W w')) := by
    by_cases hi : i < 0 ∨ (n : Int) ≤ i
    · exact ⟨i, fun W t ht hb => next_out t ao n cap i W ht hi, fun W u hu hb => rnext_out u ao n cap i W hi⟩
    · have h0 : 0 ≤ i := by omega
      have h1 : i < (n : Int) := by omega
      obtain ⟨m, hm⟩ := next_ex (l := l.take n) (i := i) h0 (by rw [HV.out.length]; exact h1)
      refine ⟨m, fun W t ht hb => (next_t t ao n cap _ i W ht (HE.out.below hb).syl (HV.out.below hb) h0 h1).mono (fun e w' hh => ?_), fun W u hu hb => (rnext_t u ao n cap _ i W hu (HV.out.below hb) h0 h1).mono (fun e w' hh => ?_)⟩
      · obtain ⟨m', e1, e2, e3⟩ := hh
        rw [hm.eq e2]
        exact ⟨e1, e3⟩
      · obtain ⟨m', e1, e2, e3⟩ := hh
        rw [hm.eq e2]
        exact ⟨e1, e3⟩
  obtain ⟨m, hN1, hN2⟩ := HNX.out
  have HN1 : Hid (∀ (W : World) t, Tabs W t → Below w.heap.size w W → Calls Tryz.prog 16 #[.pointer (some ⟨t, 0, none⟩), .slice ao n cap, .int .i64 i] W fun e w' => e = .returned (.int .i64 m) ∧ Below W.heap.size W w') := hN1
  have HN2 : Hid (∀ (W : World) u, RTabs W u → Below w.heap.size w W → Calls Tryz.prog 17 #[.pointer (some ⟨u, 0, none⟩), .slice ao n cap, .int .i64 i] W fun e w' => e = .returned (.int .i64 m) ∧ Below W.heap.size W w') := hN2
  have hmin : min (l.length : Int) 60 = (n : Int) := by omega
  have hmin2 : (if (l.length : Int) < 60 then (l.length : Int) else 60) = (n : Int) := by split <;> omega
  have hmin3 : (if (60 : Int) < (l.length : Int) then 60 else (l.length : Int)) = (n : Int) := by split <;> omega
  have hmin4 : (if (l.length : Int) ≤ 60 then (l.length : Int) else 60) = (n : Int) := by split <;> omega
  have hncap : (n : Int) ≤ (cap : Int) := by omega
  have hn0 : (0 : Int) ≤ (n : Int) := by omega
  have hmm : (m == m) = true := beq_self_eq_true _
  generalize l.length = ll at *
  clear hcells hok HA E hnil hn HNX hN1 hN2 HV HOK
  go_enter Tryz.func4, Tryz.ntmps4
  go_wp2_with fail
  refine C.mono ?_
  rintro e w1 ⟨t, rfl, ht, b1⟩
  clear C
  have C := HN1.out w1 t ht b1
  have HB1 : Hid (Below w.heap.size w w1) := b1
  clear ht b1
  go_wp2_with fail
  refine C.mono ?_
  rintro e w2 ⟨rfl, b2⟩
  clear C
  have HB2 : Hid (Below w.heap.size w w2) := HB1.out.trans (b2.mono HB1.out.size)
  have C := rload_any w2
  clear b2 HB1
  go_wp2_with fail
  refine C.mono ?_
  rintro e w3 ⟨u, rfl, hu, b3⟩
  clear C
  have HB3 : Hid (Below w.heap.size w w3) := HB2.out.trans (b3.mono HB2.out.size)
  have C := HN2.out w3 u hu HB3.out
  clear b3 HB2 hu
  go_wp2_with fail
  refine C.mono ?_
  rintro e w4 ⟨rfl, b4⟩
  clear C
  have HB4 : Hid (Below w.heap.size w w4) := HB3.out.trans (b4.mono HB3.out.size)
  have C := awake_any w4 (HE.out.below HB4.out)
  clear b4 HB3
  go_wp2_with fail
  refine C.mono ?_
  rintro e w5 ⟨rfl, b5⟩
  clear C
  have HB5 : Hid (Below w.heap.size w w5) := HB4.out.trans (b5.mono HB4.out.size)
  clear b5 HB4
  go_wp2
  go_ret
  exact ⟨rfl, HB5.out⟩
set_option maxHeartbeats 4000000 in
set_option maxRecDepth 1000000 in
theorem walks_walk (v : Value) (l : List Int) (w : World) (h : ArgC w v l) (E : CEnv w) : Calls Tryz.prog 5 #[v] w fun e w' => e = .returned (.bool true) ∧ Below w.heap.size w w' := by
  have HE : Hid (CEnv w) := E
  have HA : Hid (ArgC w v l) := h
  obtain ⟨ao, cap, rfl, hcells, hok, hcap, hmax, hnil⟩ := h
  obtain ⟨n, hn⟩ : ∃ n, min l.length 60 = n := ⟨_, rfl⟩
  have hnl : n ≤ l.length := by omega
  have hn60 : n ≤ 60 := by omega
  have HOK : Hid (∀ r ∈ l.take n, okI r) := fun x hx => hok x (List.mem_of_mem_take hx)
  have HV : Hid (Txt w ao n cap (l.take n)) := ⟨HA.out.take n hnl, by omega, hmax, HOK.out, by omega⟩
  have C := load_any w E.env
  have hmin : min (l.length : Int) 60 = (n : Int) := by omega
  have hmin2 : (if (l.length : Int) < 60 then (l.length : Int) else 60) = (n : Int) := by split <;> omega
  have hmin3 : (if (60 : Int) < (l.length : Int) then 60 else (l.length : Int)) = (n : Int) := by split <;> omega
  have hmin4 : (if (l.length : Int) ≤ 60 then (l.length : Int) else 60) = (n : Int) := by split <;> omega
  have hncap : (n : Int) ≤ (cap : Int) := by omega
  have hn0 : (0 : Int) ≤ (n : Int) := by omega
  generalize hLN : l.take n = LN at *
  generalize l.length = ll at *
  clear hcells hok hLN HA E hnil hn
  go_enter Tryz.func5, Tryz.ntmps5
  go_wp2_with fail
  refine C.mono ?_
  rintro e w1 ⟨t, rfl, ht, b1⟩
  clear C
  have HT1 : Hid (Tabs w1 t) := ht
  have HB1 : Hid (Below w.heap.size w w1) := b1
  clear ht b1
  have HLE : Hid (LN.length = n) := HV.out.length
  have HNI : Hid (∀ (W : World) (i : Int), Below w1.heap.size w1 W → 0 ≤ i → i < n → Calls Tryz.prog 16 #[.pointer (some ⟨t, 0, none⟩), .slice ao n cap, .int .i64 i] W fun e w' => ∃ m, e = .returned (.int .i64 m) ∧ IsNext LN i m ∧ Below W.heap.size W w') := fun W i hb h0 h1 => next_t t ao n cap LN i W (HT1.out.below hb) (HE.out.below (HB1.out.trans (hb.mono HB1.out.size))).syl (HV.out.below (HB1.out.trans (hb.mono HB1.out.size))) h0 h1
  have HEI : Hid (∀ (W : World) (i : Int), Below w1.heap.size w1 W → Calls Tryz.prog 12 #[.pointer (some ⟨t, 0, none⟩), .slice ao n cap, .int .i64 i] W fun e w' => e = .returned (.bool (edgeP LN i)) ∧ Below W.heap.size W w') := fun W i hb => edge_t t ao n cap LN i W (HT1.out.below hb) (HE.out.below (HB1.out.trans (hb.mono HB1.out.size))).syl (HV.out.below (HB1.out.trans (hb.mono HB1.out.size)))
  go_wp2
  go_loopw [4] (fun i wr => ∃ j : Int, 0 ≤ j ∧ j ≤ (n : Int) ∧ i = .int .i64 j ∧ Hid (Below w1.heap.size w1 wr)) (fun i _ => ((n : Int) - RowKit.intOf i).toNat)
  case atStart => exact ⟨0, by omega, by omega, rfl, Below.refl _ _⟩
  case round =>
    obtain ⟨j, hj1, hj2, rfl, HB⟩ := hrel
    by_cases hlt : j < (n : Int)
    · have C := HNI.out wr j HB.out hj1 hlt
      go_wp2_with fail
      refine C.mono ?_
      rintro e x1 ⟨m, rfl, hm, bx⟩
      clear C
      have HB4 : Hid (Below w1.heap.size w1 x1) := HB.out.trans (bx.mono HB.out.size)
      have C := HEI.out x1 m HB4.out
      rw [hm.edge] at C
      have hm1 : ¬ m ≤ j := by have := hm.lt; omega
      have hm2 : ¬ (n : Int) < m := by have := hm.le; rw [HLE.out] at this; omega
      have HNO : Hid (∀ k, j < k → k < m → edgeP LN k = false) := hm.none
      clear HB bx hm
      go_wp2_with fail
      refine C.mono ?_
      rintro e x2 ⟨rfl, bx⟩
      clear C
      have HB5 : Hid (Below w1.heap.size w1 x2) := HB4.out.trans (bx.mono HB4.out.size)
      have wj : IntKind.i64.wrap (j + 1) = j + 1 := by rw [IntKind.wrap_i64]; omega
      clear HB4 bx
      go_wp2
      go_loopw [6] (fun i wr => ∃ k : Int, j < k ∧ k ≤ m ∧ i = .int .i64 k ∧ Hid (Below w1.heap.size w1 wr)) (fun i _ => (m - RowKit.intOf i).toNat)
      case atStart => exact ⟨j + 1, by omega, by omega, rfl, HB5⟩
      case round =>
        clear HB5
        obtain ⟨k, hk1, hk2, rfl, HB6⟩ := hrel
        by_cases hkm : k < m
        · have C := HEI.out wr k HB6.out
          rw [HNO.out k hk1 hkm] at C
          have wk : IntKind.i64.wrap (k + 1) = k + 1 := by rw [IntKind.wrap_i64]; omega
          go_wp2_with fail
          refine C.mono ?_
          rintro e x3 ⟨rfl, bx⟩
          clear C
          have HB7 : Hid (Below w1.heap.size w1 x3) := HB6.out.trans (bx.mono HB6.out.size)
          clear HB6 bx
          go_wp2
          exact ⟨⟨k + 1, by omega, by omega, rfl, HB7⟩, by simp [RowKit.intOf]; omega⟩
        · clear HNO
          go_wp2
          exact ⟨⟨m, by omega, by omega, rfl, HB6⟩, by simp [RowKit.intOf]; omega⟩
    · have HBW : Hid (Below w.heap.size w wr) := HB1.out.trans (HB.out.mono HB1.out.size)
      have C := awake_any wr (HE.out.below HBW.out)
      clear HB
      go_wp2_with fail
      refine C.mono ?_
      rintro e x2 ⟨rfl, bx⟩
      clear C
      have HB5 : Hid (Below w.heap.size w x2) := HBW.out.trans (bx.mono HBW.out.size)
      clear HBW bx
      go_wp2
      go_ret
      exact ⟨rfl, HB5.out⟩
end Go.Proofs.YtbdojobplhpnbaaGreatDoor.clu
end

section
/- The table of syllables, as a row lays it. -/
set_option linter.unusedVariables false
set_option linter.unusedSimpArgs false
namespace Go.Proofs.YtbdojobplhpnbaaGreatDoor.clu
open Go.ChangeShapes Go.WideShapes Go.ChangeAt Go.RowKit

def sylD : DataW Unit := .agg (syl.map fun z => .agg [.lit (.int .i64 z.1), .lit (.int .i64 z.2)])
set_option maxRecDepth 100000 in
theorem syl_cells {H : Type} {enc : TypeId × Value → H} {w : World} {base : Nat} {sp : Nat → Bool} {held : Bool} {fuel : Nat} {cs : List Value} {zs : List (Int × Int)} {p : List MemPlace}
    (h : DataW.trod enc Tryz.prog w base sp held fuel 125 cs = some (.agg (zs.map fun z => .agg [.lit (.int .i64 z.1), .lit (.int .i64 z.2)]), p)) :
    ∀ (i : Nat) (z : Int × Int), zs[i]? = some z → i < 10 → cs[i * 2]? = some (.int .i64 z.1) ∧ cs[i * 2 + 1]? = some (.int .i64 z.2) := by
  intro i z hz hi
  obtain ⟨xs, m, _, hx, hl, hn, hat⟩ := DataW.trod_array Tryz.underlying125 h
  have ce : Tryz.prog.cellsOf 90 = 2 := by kernel_rfl
  have ck : Tryz.prog.cellsOf 87 = 1 := by kernel_rfl
  have q := hat i hi
  rw [ce] at q
  obtain ⟨x, hxi⟩ : ∃ x, xs[i]? = some x := ⟨_, List.getElem?_eq_getElem (by omega)⟩
  rw [hxi] at q
  obtain ⟨y0, y1, kk, hy, hlen, g0, g1⟩ := trod_struct2 Tryz.underlying90 q
  simp [ck] at g0 g1
  obtain ⟨x0, hv0, hy0, _⟩ := DataW.trod_int Tryz.underlying87 g0
  obtain ⟨x1, hv1, hy1, _⟩ := DataW.trod_int Tryz.underlying87 g1
  have e1 := congrArg Prod.fst hx
  simp only at e1
  injection e1 with e1
  have e2 : (xs.map (·.1))[i]? = some (DataW.agg [.lit (.int .i64 z.1), .lit (.int .i64 z.2)]) := by rw [← e1, List.getElem?_map, hz]; rfl
  rw [List.getElem?_map, hxi, Option.map_some, hy] at e2
  simp only [Option.some.injEq, DataW.agg.injEq, List.cons.injEq, and_true] at e2
  obtain ⟨e3, e4⟩ := e2
  have f0 : x0 = z.1 := by
    rw [hy0] at e3
    simpa using e3
  have f1 : x1 = z.2 := by
    rw [hy1] at e4
    simpa using e4
  have r0 := congrArg (·[0]?) hv0
  have r1 := congrArg (·[0]?) hv1
  simp [List.getElem?_take, List.getElem?_drop] at r0 r1
  rw [← f0, ← f1]
  exact ⟨r0, r1⟩
theorem syl_key : ∀ (i : Nat), i < 10 → ∃ z, syl[i]? = some z ∧ sylC[i * 2]? = some (.int .i64 z.1) ∧ sylC[i * 2 + 1]? = some (.int .i64 z.2)
  | 0, _ => ⟨(4, 4), rfl, rfl, rfl⟩
  | 1, _ => ⟨(4, 5), rfl, rfl, rfl⟩
  | 2, _ => ⟨(4, 7), rfl, rfl, rfl⟩
  | 3, _ => ⟨(4, 8), rfl, rfl, rfl⟩
  | 4, _ => ⟨(7, 5), rfl, rfl, rfl⟩
  | 5, _ => ⟨(7, 6), rfl, rfl, rfl⟩
  | 6, _ => ⟨(5, 5), rfl, rfl, rfl⟩
  | 7, _ => ⟨(5, 6), rfl, rfl, rfl⟩
  | 8, _ => ⟨(8, 6), rfl, rfl, rfl⟩
  | 9, _ => ⟨(6, 6), rfl, rfl, rfl⟩
  | k + 10, h => absurd h (by omega)
theorem gSyl : Tryz.prog.globalNamed "rubricator/cluster.syllables" = some 0 := by kernel_rfl
theorem gSylType : (Tryz.prog.globals[0]?).map (·.type) = some 125 := by kernel_rfl
theorem syl_of {W : World} (h : laidMet Tryz.prog [("rubricator/cluster.syllables", sylD)] W) : Syl W := by
  obtain ⟨ps, ⟨g', t', cs, fuel, p, q, hg', ht', hvar, hd, _, _⟩, _⟩ := h
  obtain rfl := Option.some.inj (gSyl.symm.trans hg')
  obtain rfl := Option.some.inj (gSylType.symm.trans ht')
  intro j u hj
  have hj20 : j < 20 := (List.getElem?_eq_some_iff.1 hj).1
  obtain ⟨z, hz, k0, k1⟩ := syl_key (j / 2) (by omega)
  obtain ⟨c0, c1⟩ := syl_cells hd (j / 2) z hz (by omega)
  rw [Array.getElem?_toList] at c0 c1
  have v := World.var?_cell gSyl hvar j
  rcases (show j = j / 2 * 2 ∨ j = j / 2 * 2 + 1 by omega) with e | e
  · rw [v]
    rw [e] at hj ⊢
    rw [c0, ← k0, hj]
  · rw [v]
    rw [e] at hj ⊢
    rw [c1, ← k1, hj]
end Go.Proofs.YtbdojobplhpnbaaGreatDoor.clu
end

section
/- Clusters, plainly: line ends, flags, marks. -/
set_option linter.unusedVariables false
set_option linter.unusedSimpArgs false
namespace Go.Proofs.YtbdojobplhpnbaaGreatDoor.clu
open Go.Proofs.YtbdojobplhpnbaaGreatDoor.prp (clF sF cluL clu_apart sF_first firstR first_mem inR RL)

theorem kd_lits : kd 10 = 2 ∧ kd 13 = 1 ∧ kd 769 = 9 ∧ kd 127462 = 14 := by decide +kernel
theorem cr_recs : ∀ x ∈ cluL, x.2.2.getD 0 [] = [67, 82] → x.1 = 13 ∧ x.2.1 = 13 := by decide +kernel
theorem kd_cr (x : Int) : kd x = 1 ↔ x = 13 := by
  constructor
  · intro h
    have h1 : clF x = [67, 82] := (kS_iff (clF x) 1 (by decide) (by decide)).1 h
    unfold clF at h1
    split at h1
    · rw [sF_first [] cluL clu_apart] at h1
      cases hf : firstR cluL x with
      | none => rw [hf] at h1; cases h1
      | some r =>
        rw [hf] at h1
        obtain ⟨hm, hi⟩ := first_mem hf
        have := cr_recs r hm h1
        unfold inR at hi
        rw [Bool.and_eq_true, decide_eq_true_eq, decide_eq_true_eq] at hi
        omega
    · split at h1
      · cases h1
      · cases h1
  · rintro rfl
    exact kd_lits.2.1
theorem edge_mid {l : List Int} {m n : Nat} {x y : Int} (hn : n = m + 1) (hx : l[m]? = some x) (hy : l[n]? = some y) : edgeP l (n : Int) = ruleB (kd x) (kd y) (endsPic (back l m)) (flagsN (back l n)) := by
  have hl := (List.getElem?_eq_some_iff.1 hy).1
  unfold edgeP
  rw [if_neg (by omega), if_neg (by omega), Int.toNat_natCast]
  exact parted_at hn hx hy
theorem lines_ahead (A B : List Int) (x : Int) : edgeP (A ++ [x] ++ [10] ++ B) ((A.length + 1 : Nat) : Int) = !(x == 13) := by
  have hx : (A ++ [x] ++ [10] ++ B)[A.length]? = some x := by simp
  have hy : (A ++ [x] ++ [10] ++ B)[A.length + 1]? = some 10 := by simp
  rw [edge_mid rfl hx hy, kd_lits.1]
  by_cases h : x = 13
  · rw [rule_cr ((kd_cr x).2 h) rfl, h]; rfl
  · rw [rule_alone (fun e => h ((kd_cr x).1 e.1)) (Bool.or_true _), beq_eq_false_iff_ne.2 h]; rfl
theorem lines_first (B : List Int) : edgeP ([10] ++ B) 0 = true := edge_zero (by simp)
theorem lines_behind (A B : List Int) : edgeP (A ++ [10] ++ B) ((A.length : Int) + 1) = true := by
  cases B with
  | nil =>
    have : ((A.length : Int) + 1) = ((A ++ [10] ++ []).length : Nat) := by simp
    rw [this]
    exact edge_end (by simp)
  | cons y B =>
    have hx : (A ++ [10] ++ y :: B)[A.length]? = some 10 := by simp
    have hy : (A ++ [10] ++ y :: B)[A.length + 1]? = some y := by simp
    have e : ((A.length : Int) + 1) = ((A.length + 1 : Nat) : Int) := by omega
    rw [e, edge_mid rfl hx hy, kd_lits.1]
    exact rule_alone (fun e => absurd e.1 (by decide)) rfl
theorem flags_rep (n : Nat) : flagsN (List.replicate n 14) = n := by
  induction n with
  | zero => rfl
  | succ n ih => rw [List.replicate_succ, flag_cons, if_pos rfl, ih]
theorem back_rep {N n : Nat} (h : n ≤ N) : back (List.replicate N 127462) n = List.replicate n 14 := by
  unfold back
  rw [List.take_replicate, Nat.min_eq_left h, List.map_replicate, kd_lits.2.2.2, List.reverse_replicate]
theorem flag_rule (p : Bool) (f : Nat) : ruleB 14 14 p f = (f % 2 == 0) := by
  rw [rule_rest (by decide) (by decide) (by decide) (by decide) (by decide), if_neg (by decide), if_pos ⟨rfl, rfl⟩]
theorem flag_edge {N k : Nat} (h1 : 1 ≤ N) (h : k ≤ N) : edgeP (List.replicate N 127462) (k : Int) = (((k : Int) % 2 == 0) || ((k : Int) == (N : Int))) := by
  by_cases hk : k = N
  · subst hk
    have := edge_end (l := List.replicate k 127462) (by rw [List.length_replicate]; omega)
    rw [List.length_replicate] at this
    rw [this, beq_self_eq_true, Bool.or_true]
  · rcases Nat.eq_zero_or_pos k with h0 | h0
    · subst h0
      rw [show ((0 : Nat) : Int) = 0 from rfl, edge_zero (by rw [List.length_replicate]; omega)]
      rfl
    · obtain ⟨m, hm⟩ : ∃ m, k = m + 1 := ⟨k - 1, by omega⟩
      have hx : (List.replicate N (127462 : Int))[m]? = some 127462 := by rw [List.getElem?_replicate, if_pos (by omega)]
      have hy : (List.replicate N (127462 : Int))[k]? = some 127462 := by rw [List.getElem?_replicate, if_pos (by omega)]
      rw [edge_mid hm hx hy, kd_lits.2.2.2, flag_rule, back_rep h, flags_rep, show ((k : Int) == (N : Int)) = false from by rw [beq_eq_false_iff_ne]; omega, Bool.or_false, Bool.eq_iff_iff, beq_iff_eq, beq_iff_eq]
      omega
theorem mark_rule {a : Int} (p : Bool) (f : Nat) : ruleB a 9 p f = alone a := by
  cases h : alone a
  · exact rule_with h (by decide) (by rw [show trails 9 = true from by decide, Bool.or_true]; rfl)
  · exact rule_alone (fun e => absurd e.2 (by decide)) (by rw [h]; rfl)
theorem marks_mid (A B : List Int) (x : Int) : edgeP (A ++ [x] ++ [769] ++ B) ((A.length + 1 : Nat) : Int) = alone (kd x) := by
  have hx : (A ++ [x] ++ [769] ++ B)[A.length]? = some x := by simp
  have hy : (A ++ [x] ++ [769] ++ B)[A.length + 1]? = some 769 := by simp
  rw [edge_mid rfl hx hy, kd_lits.2.2.1]
  exact mark_rule _ _
theorem marks_first (B : List Int) : edgeP ([769] ++ B) 0 = true := edge_zero (by simp)
end Go.Proofs.YtbdojobplhpnbaaGreatDoor.clu
end

section
/- slices.Concat of three rows of numbers. -/
set_option linter.unusedVariables false
set_option linter.unusedSimpArgs false
namespace Go.Proofs.YtbdojobplhpnbaaGreatDoor.clu
open Go.Shelf Go.RowKit Go.Lib Go.Sort Go.Proofs
open Go.Proofs.YtbdojobplhpnbaaGreatDoor.prp Go.Proofs.YtbdojobplhpnbaaGreatDoor.lin

theorem infoI64 : (Tryz.prog.info? 3).map (fun i => (i.zero, i.size, i.bytes)) = some (some (.int .i64 0), 1, 8) := by kernel_rfl

set_option maxRecDepth 1000000 in
theorem grow_zero (w : World) : Calls Tryz.prog 43 #[.slice none 0 0, .int .i64 0] w fun e w' => e = .returned (.slice none 0 0) ∧ w' = w := by
  go_enter Tryz.func43, Tryz.ntmps43
  go_wp2
  go_ret
  exact ⟨rfl, rfl⟩

set_option maxHeartbeats 400000 in
set_option maxRecDepth 1000000 in
theorem grow_pos (n : Nat) (w : World) (h0 : 0 < n) (hn : n ≤ 100000) :
    Calls Tryz.prog 43 #[.slice none 0 0, .int .i64 n] w fun e w' => ∃ v, e = .returned v ∧ IOwn w' w.heap.size v [] ∧ Below w.heap.size w w' := by
  obtain ⟨i0, hi, hz0, hz1, hz2⟩ := info_parts infoI64
  have hold : (Builtin.firstCells i0.size 0 (.slice none 0 0)).run Tryz.prog w.drew = .ok ([] : List Value).toArray w.drew := run_firstCells_none w.drew i0.size 0 0 0
  have hrz : ∀ ty, (Builtin.append_ #[22, 3] ty #[.slice none 0 0, .int .i64 (n : Int)]).run Tryz.prog w =
      .ok (.slice (some ⟨w.heap.size, 0, none⟩) n (grownCap w n 0 3)) (w.drew.alloc (.cells (([] : List Value).toArray ++ Builtin.zeroCells (Value.int .i64 0).cells n ++ Builtin.zeroCells (Value.int .i64 0).cells (grownCap w n 0 3 - n)) 3)) := fun ty => by
    have h := Lib.run_append_grow_zeros w 22 3 ty 3 i0 (.int .i64 0) .i64 .i64 Tryz.underlying22 Tryz.underlying3 hi hz0 none 0 0 [] hold n (by omega) (by omega) (by omega) (by omega)
      (by rw [hz2]; omega)
      (by rw [Nat.zero_add]; exact growslice_fits h0 (by rw [hz2]; omega))
    simpa using h
  have hGn : n ≤ grownCap w n 0 3 := grownCap_ge w _ _ _
  have hG63 := grownCap_le_maxLen w n 0 3 (by unfold maxLen; omega)
  have hp : (0 : Int) < (n : Int) := by omega
  generalize grownCap w n 0 3 = G at *
  have HO : Hid ((w.alloc (.cells (Builtin.zeroCells #[.int .i64 0] n ++ Builtin.zeroCells #[.int .i64 0] (G - n)) 3)).drew.ownsRow w.heap.size 3 1 (.slice (some ⟨w.heap.size, 0, none⟩) 0 G) 0 []) :=
    (World.ownsRow_made (base := w.heap.size) (e := 3) (size := 1) w _ G (Nat.le_refl _) hG63 (by simp [Builtin.zeroCells]; omega)).drew
  clear hold
  have hGb : G ≤ 9223372036854775807 := by unfold maxLen at hG63; omega
  go_enter Tryz.func43, Tryz.ntmps43
  go_wp2_with (at_builtin; refine Lib.wpList_append_run _ rfl _ _ _ _ rfl _ _ rfl rfl _ _ (hrz _) ?_)
  all_goals go_ret
  all_goals exact ⟨_, rfl, HO.out, ((Below.refl _ _).alloc (Nat.le_refl _) _).drew⟩

/-- append(dst, src...), dst the call's own, src nil or not. -/
theorem wpList_append_src {w : World} {ops : Array Oper} {rest : List Oper} {o : Oper} {a : Act} {Q : Exit → Act → World → Prop} (hgd : o.guard = none) (s x : Operand)
    (ho : o.op = .call { callee := .builtin .append, args := #[s, x], argTypes := #[22, 22] })
    (base : Nat) (i : TypeInfo) (hi : Tryz.prog.info? 3 = some i) (hz : i.zero = some (.int .i64 0)) (hsize : i.size = 1) (hby : i.bytes = 8)
    (v : Value) (n : Nat) (xs : List Value) (hs : a.eval s = v) (hown : w.ownsRow base 3 1 v n xs)
    (ao : Option Addr) (m c : Nat) (news : List Value) (hx : a.eval x = .slice ao m c) (hl : news.length = m) (hnil : ao = none → m = 0 ∧ c = 0)
    (hnews : ∀ ad, ao = some ad → ∀ j u, news[j]? = some u → w.cell? (ad.add j) = some u) (h1 : ∀ u ∈ news, u.oneCell' = true)
    (h63 : n + m ≤ maxLen) (hbytes : (n + m) * 8 ≤ 140737488355328) (hbase : base ≤ w.heap.size)
    (h : ∀ v' w', w'.ownsRow base 3 1 v' (n + m) (xs ++ news) → w.grownBy w' v.ownBlock → wpList Tryz.prog ops Q rest (a.put o.dst v') w') : wpList Tryz.prog ops Q (o :: rest) a w := by
  cases ao with
  | none =>
    obtain ⟨rfl, rfl⟩ := hnil rfl
    obtain rfl := List.eq_nil_of_length_eq_zero hl
    refine wpList_append_own_none hgd s x 22 ho base 3 i 1 Tryz.underlying22 hi v n xs hs hown hx (h v w ?_ ⟨rfl, rfl, rfl, Nat.le_refl _, fun _ _ _ => rfl⟩)
    simpa using hown
  | some ad =>
    exact wpList_append_own w hgd s x 22 ho base 3 i (.int .i64 0) 1 8 Tryz.underlying22 hi hz hsize hby rfl (by decide) v n xs hs hown ad m c news hx (by simpa using hl) (hnews ad rfl) h1 h63 hbytes hbase (fun v' w' h2 h3 _ => h v' w' h2 h3)

theorem iv_news {w : World} {ao : Option Addr} {n c : Nat} {l : List Int} (h : IV w (.slice ao n c) l) (hl : l.length = n) : ∀ ad, ao = some ad → ∀ (j : Nat) (u : Value), (l.map (Value.int .i64))[j]? = some u → w.cell? (ad.add j) = some u := by
  intro ad e j u hj
  obtain ⟨a, c', e', hc⟩ := h
  cases e'
  subst e
  have hjn : j < l.length := by
    rcases Nat.lt_or_ge j l.length with h | h
    · exact h
    · rw [List.getElem?_eq_none (by simpa using h)] at hj; simp at hj
  obtain ⟨b, o, e, hx⟩ := hc (by omega)
  cases e
  rw [Addr.add_lit, hx j hjn, ← hj, List.getElem?_map, List.getD_eq_getElem?_getD, List.getElem?_eq_getElem hjn]
  rfl

set_option maxHeartbeats 2000000 in
set_option maxRecDepth 1000000 in
theorem concat_any (B na ca nb cb nc cc : Nat) (aa ab ac : Option Addr) (la lb lc : List Int) (w : World) (c0 : w.cell? ⟨B, 0, none⟩ = some (.slice aa na ca)) (c1 : w.cell? ⟨B, 1, none⟩ = some (.slice ab nb cb)) (c2 : w.cell? ⟨B, 2, none⟩ = some (.slice ac nc cc))
    (hA : IV w (.slice aa na ca) la) (hB : IV w (.slice ab nb cb) lb) (hC : IV w (.slice ac nc cc) lc) (hla : la.length = na) (hlb : lb.length = nb) (hlc : lc.length = nc) (hna : aa = none → na = 0 ∧ ca = 0) (hnb : ab = none → nb = 0 ∧ cb = 0) (hnc : ac = none → nc = 0 ∧ cc = 0) (hn : na + nb + nc ≤ 100000) :
    Calls Tryz.prog 18 #[.slice (some ⟨B, 0, none⟩) 3 3] w fun e w' => ∃ v, e = .returned v ∧ IOwn w' w.heap.size v (la ++ lb ++ lc) ∧ Below w.heap.size w w' := by
  obtain ⟨i0, hi, hz0, hz1, hz2⟩ := info_parts infoI64
  have C0 : Hid (w.cell? ⟨B, 0, none⟩ = some (.slice aa na ca)) := c0
  have C1 : Hid (w.cell? ⟨B, 1, none⟩ = some (.slice ab nb cb)) := c1
  have C2 : Hid (w.cell? ⟨B, 2, none⟩ = some (.slice ac nc cc)) := c2
  have HA : Hid (IV w (.slice aa na ca) la) := hA
  have HB : Hid (IV w (.slice ab nb cb) lb) := hB
  have HC : Hid (IV w (.slice ac nc cc) lc) := hC
  have HNA : Hid (aa = none → na = 0 ∧ ca = 0) := hna
  have HNB : Hid (ab = none → nb = 0 ∧ cb = 0) := hnb
  have HNC : Hid (ac = none → nc = 0 ∧ cc = 0) := hnc
  have HLA : Hid (la.length = na) := hla
  have HLB : Hid (lb.length = nb) := hlb
  have HLC : Hid (lc.length = nc) := hlc
  have GR : ∀ w, Calls Tryz.prog 43 #[.slice none 0 0, .int .i64 ((na : Int) + (nb : Int) + (nc : Int))] w fun e w' => ∃ v, e = .returned v ∧ w'.ownsRow w.heap.size 3 1 v 0 [] ∧ Below w.heap.size w w' := by
    intro w
    rcases Nat.eq_zero_or_pos (na + nb + nc) with h | h
    · have e : (na : Int) + (nb : Int) + (nc : Int) = 0 := by omega
      rw [e]
      refine (grow_zero w).mono ?_
      rintro e w' ⟨rfl, rfl⟩
      exact ⟨_, rfl, World.ownsRow_nil _ _ _ _, Below.refl _ _⟩
    · have := grow_pos (na + nb + nc) w h hn
      rw [Int.natCast_add, Int.natCast_add] at this
      exact this
  have HG : Hid (∀ w, Calls Tryz.prog 43 #[.slice none 0 0, .int .i64 ((na : Int) + (nb : Int) + (nc : Int))] w fun e w' => ∃ v, e = .returned v ∧ w'.ownsRow w.heap.size 3 1 v 0 [] ∧ Below w.heap.size w w') := GR
  have s1 : IntKind.i64.wrap (na : Int) = (na : Int) := by rw [IntKind.wrap_i64]; omega
  have s2 : IntKind.i64.wrap ((na : Int) + (nb : Int)) = (na : Int) + (nb : Int) := by rw [IntKind.wrap_i64]; omega
  have s3 : IntKind.i64.wrap ((na : Int) + (nb : Int) + (nc : Int)) = (na : Int) + (nb : Int) + (nc : Int) := by rw [IntKind.wrap_i64]; omega
  clear GR hA hB hC hna hnb hnc hla hlb hlc
  go_enter Tryz.func18, Tryz.ntmps18
  go_wp2
  refine wp_loop_rounds 4 ?_
  rw [rounds_succ]
  go_wp2
  rw [rounds_succ]
  go_wp2
  rw [rounds_succ]
  go_wp2
  rw [rounds_succ]
  go_wp2_with fail
  refine (HG.out _).mono ?_
  rintro e w1 ⟨v, rfl, hown, hb1⟩
  clear HG
  go_wp2
  go_loopw [6, 27] (fun v i wr => Below w.heap.size w wr ∧ ((i = .int .i64 0 ∧ wr.ownsRow w.heap.size 3 1 v 0 []) ∨ (i = .int .i64 1 ∧ wr.ownsRow w.heap.size 3 1 v na (la.map (Value.int .i64))) ∨ (i = .int .i64 2 ∧ wr.ownsRow w.heap.size 3 1 v (na + nb) ((la ++ lb).map (Value.int .i64))) ∨ (i = .int .i64 3 ∧ wr.ownsRow w.heap.size 3 1 v (na + nb + nc) ((la ++ lb ++ lc).map (Value.int .i64))))) (fun _ i _ => 3 - (RowKit.intOf i).toNat)
  case atStart => exact ⟨hb1, .inl ⟨rfl, hown⟩⟩
  case round =>
    clear hown hb1
    obtain ⟨hbel, ⟨rfl, hown⟩ | ⟨rfl, hown⟩ | ⟨rfl, hown⟩ | ⟨rfl, hown⟩⟩ := hrel
    · have cl := (hbel.cell (World.block_lt_of_cell? w _ C0.out)).trans C0.out
      have HNW : Hid (∀ ad, aa = some ad → ∀ (j : Nat) (u : Value), (la.map (Value.int .i64))[j]? = some u → wr.cell? (ad.add j) = some u) := iv_news (HA.out.below hbel) HLA.out
      go_wp2_with (at_builtin; refine wpList_append_src rfl _ _ rfl w.heap.size i0 hi hz0 hz1 hz2 _ _ _ rfl hown aa na ca (la.map (Value.int .i64)) rfl ?ea0 HNA.out HNW.out ?ea2 ?ea3 ?ea4 hbel.size ?_)
      case ea0 => rw [List.length_map]; exact HLA.out
      case ea2 => intro u hu; simp at hu; obtain ⟨x, _, rfl⟩ := hu; rfl
      case ea3 => unfold maxLen; omega
      case ea4 => omega
      · intro v' w3 hown3 hgrow
        have R3 := Below.grown hbel hgrow hbel.size (fun k e => (hown.lt _ e).1)
        clear hgrow hown hbel HNW
        go_wp2
        go_roundw
        case rel => exact ⟨R3, .inr (.inl ⟨rfl, by simpa using hown3⟩)⟩
        case measure => simp [RowKit.intOf]
    · have cl := (hbel.cell (World.block_lt_of_cell? w _ C1.out)).trans C1.out
      have HNW : Hid (∀ ad, ab = some ad → ∀ (j : Nat) (u : Value), (lb.map (Value.int .i64))[j]? = some u → wr.cell? (ad.add j) = some u) := iv_news (HB.out.below hbel) HLB.out
      go_wp2_with (at_builtin; refine wpList_append_src rfl _ _ rfl w.heap.size i0 hi hz0 hz1 hz2 _ _ _ rfl hown ab nb cb (lb.map (Value.int .i64)) rfl ?eb0 HNB.out HNW.out ?eb2 ?eb3 ?eb4 hbel.size ?_)
      case eb0 => rw [List.length_map]; exact HLB.out
      case eb2 => intro u hu; simp at hu; obtain ⟨x, _, rfl⟩ := hu; rfl
      case eb3 => unfold maxLen; omega
      case eb4 => omega
      · intro v' w3 hown3 hgrow
        have R3 := Below.grown hbel hgrow hbel.size (fun k e => (hown.lt _ e).1)
        clear hgrow hown hbel HNW
        go_wp2
        go_roundw
        case rel => exact ⟨R3, .inr (.inr (.inl ⟨rfl, by rw [List.map_append]; exact hown3⟩))⟩
        case measure => simp [RowKit.intOf]
    · have cl := (hbel.cell (World.block_lt_of_cell? w _ C2.out)).trans C2.out
      have HNW : Hid (∀ ad, ac = some ad → ∀ (j : Nat) (u : Value), (lc.map (Value.int .i64))[j]? = some u → wr.cell? (ad.add j) = some u) := iv_news (HC.out.below hbel) HLC.out
      go_wp2_with (at_builtin; refine wpList_append_src rfl _ _ rfl w.heap.size i0 hi hz0 hz1 hz2 _ _ _ rfl hown ac nc cc (lc.map (Value.int .i64)) rfl ?ec0 HNC.out HNW.out ?ec2 ?ec3 ?ec4 hbel.size ?_)
      case ec0 => rw [List.length_map]; exact HLC.out
      case ec2 => intro u hu; simp at hu; obtain ⟨x, _, rfl⟩ := hu; rfl
      case ec3 => unfold maxLen; omega
      case ec4 => omega
      · intro v' w3 hown3 hgrow
        have R3 := Below.grown hbel hgrow hbel.size (fun k e => (hown.lt _ e).1)
        clear hgrow hown hbel HNW
        go_wp2
        go_roundw
        case rel => exact ⟨R3, .inr (.inr (.inr ⟨rfl, by rw [List.map_append, List.map_append, List.append_assoc]; exact hown3⟩))⟩
        case measure => simp [RowKit.intOf]
    · go_wp2
      go_ret
      refine ⟨_, rfl, ?_, hbel⟩
      unfold IOwn
      rw [List.length_append, List.length_append, HLA.out, HLB.out, HLC.out]
      exact hown
end Go.Proofs.YtbdojobplhpnbaaGreatDoor.clu
end
