/- Texts that the proof leans on, one behind the other. -/
import Derived.Test.YtpcnbamlmfmmpaaGreatDoorBdCls6
import Derived.Deep.RegionHeld3
import Derived.Deep.RegionWith

section
/- The walk of ClassSides. -/
set_option linter.unusedVariables false
set_option linter.unusedSimpArgs false
namespace Go.Proofs.YtpcnbamlmfmmpaaGreatDoor.cls
open Go.RowKit
open Go.Proofs.YtpcnbamlmfmmpaaGreatDoor.rng (R has IsSet Sl code CanF RV)
open Go.Proofs.YtpcnbamlmfmmpaaGreatDoor.dcp (sinL fullL)
open Go.Proofs.YtpcnbamlmfmmpaaGreatDoor.fld (sim kL)
open Go.Proofs.YtpcnbamlmfmmpaaGreatDoor.nod

theorem infoNode : (Tryz.prog.info? 37).map (·.size) = some 8 := by kernel_rfl
set_option maxHeartbeats 1000000 in
theorem side_any (k m a b : Int) (g : Bool) (n : ByteArray) (ta : Option Addr) (tl tc : Nat) (ka : Option Addr) (kl kc : Nat) (W : World) :
    Calls Tryz.prog 18 #[.agg #[.int .i64 k, .int .i64 m, .int .i64 a, .int .i64 b, .bool g, .string n, .slice ta tl tc, .slice ka kl kc]] W fun e w' => ∃ kb, e = .returned (.agg #[.int .i64 3, .int .i64 0, .int .i64 0, .int .i64 0, .bool false, .string ⟨#[]⟩, .slice none 0 0, .slice (some ⟨kb, 0, none⟩) 1 1]) ∧ Bk w' kb #[.int .i64 k, .int .i64 m, .int .i64 a, .int .i64 b, .bool g, .string n, .slice ta tl tc, .slice ka kl kc] 37 ∧ Below W.heap.size W w' := by
  go_enter Tryz.func18, Tryz.ntmps18
  go_wp2
  refine bodyPost_ret (results_cell_row Tryz.results18 _ _ (W.heap.size + 1) _ #[.int .i64 3, .int .i64 0, .int .i64 0, .int .i64 0, .bool false, .string ⟨#[]⟩, .slice none 0 0, .slice (some ⟨W.heap.size + 1 + 1, 0, none⟩) 1 1] _ _ rfl (bk2.past _) Tryz.underlying37 rfl infoNode) rfl ?_
  refine ⟨W.heap.size + 1 + 1, rfl, ?_, (below2 W _ _).alloc (by simp; omega) _⟩
  have := Bk.new ((W.alloc (.cells #[.int .i64 k, .int .i64 m, .int .i64 a, .int .i64 b, .bool g, .string n, .slice ta tl tc, .slice ka kl kc] 37)).alloc (.cells #[.int .i64 3, .int .i64 0, .int .i64 0, .int .i64 0, .bool false, .string ⟨#[]⟩, .slice none 0 0, .slice (some ⟨W.heap.size + 1 + 1, 0, none⟩) 1 1] 37)) #[.int .i64 k, .int .i64 m, .int .i64 a, .int .i64 b, .bool g, .string n, .slice ta tl tc, .slice ka kl kc] 37
  simpa using this
/-- Two sides, each a class of one kid, in a row. -/
theorem nv_sides {w W : World} {t1 t2 : Nd} {x1 x2 : Nat} {j0 j1 j2 j3 j4 j5 j6 j7 k0 k1 k2 k3 k4 k5 k6 k7 : Value} (md : Int) (hmd : I64 md) (hv1 : NV w.heap.size w t1 (.agg #[j0, j1, j2, j3, j4, j5, j6, j7])) (hv2 : NV w.heap.size w t2 (.agg #[k0, k1, k2, k3, k4, k5, k6, k7])) (hb : Below w.heap.size w W) (h1 : Bk W x1 #[j0, j1, j2, j3, j4, j5, j6, j7] 37) (h2 : Bk W x2 #[k0, k1, k2, k3, k4, k5, k6, k7] 37) :
    NV (W.heap.size + 1) (W.alloc (.cells #[.int .i64 3, .int .i64 0, .int .i64 0, .int .i64 0, .bool false, .string ⟨#[]⟩, .slice none 0 0, .slice (some ⟨x1, 0, none⟩) 1 1, .int .i64 3, .int .i64 0, .int .i64 0, .int .i64 0, .bool false, .string ⟨#[]⟩, .slice none 0 0, .slice (some ⟨x2, 0, none⟩) 1 1] 37)) (.mk 3 md 0 0 false ⟨#[]⟩ [] [.mk 3 0 0 0 false ⟨#[]⟩ [] [t1], .mk 3 0 0 0 false ⟨#[]⟩ [] [t2]]) (.agg #[.int .i64 3, .int .i64 md, .int .i64 0, .int .i64 0, .bool false, .string ⟨#[]⟩, .slice none 0 0, .slice (some ⟨W.heap.size, 0, none⟩) 2 2]) := by
  have a1 := nv_class false 0 (i64s (by decide) (by decide)) hv1 hb h1
  have a2 := nv_class false 0 (i64s (by decide) (by decide)) hv2 hb h2
  exact NV.shut (s := []) (ks := [(.mk 3 0 0 0 false ⟨#[]⟩ [] [t1]), (.mk 3 0 0 0 false ⟨#[]⟩ [] [t2])]) ⟨i64s (by decide) (by decide), hmd, i64s (by decide) (by decide), i64s (by decide) (by decide)⟩ (by decide) ⟨.inl rfl, fun x e => (by cases e), by simp, by simp, fun _ => rfl⟩ ⟨by simp, by unfold maxLen; simp, fun e => (by cases e)⟩ (kv_two 37 a1 a2 (Nat.le_refl _))
theorem rng_sl {w : World} {v : Value} {l : List R} (h : Sl w v l) : ∃ a c, v = .slice a l.length c := by
  obtain ⟨a, c, e, _⟩ := h
  exact ⟨a, c, e⟩
theorem sides_sz {t1 t2 : Nd} {md : Int} (h1 : t1.sz ≤ 100) (h2 : t2.sz ≤ 100) : (Nd.mk 3 md 0 0 false ⟨#[]⟩ [] [(.mk 3 0 0 0 false ⟨#[]⟩ [] [t1]), (.mk 3 0 0 0 false ⟨#[]⟩ [] [t2])]).sz ≤ 204 := by
  simp only [Nd.sz, szL]; omega
theorem sides_short {t1 t2 : Nd} {md : Int} (h1 : shortN t1) (h2 : shortN t2) : shortN (.mk 3 md 0 0 false ⟨#[]⟩ [] [(.mk 3 0 0 0 false ⟨#[]⟩ [] [t1]), (.mk 3 0 0 0 false ⟨#[]⟩ [] [t2])]) := by
  simp only [shortN, shortL]
  exact ⟨by decide, ⟨by decide, h1, trivial⟩, ⟨by decide, h2, trivial⟩, trivial⟩
theorem sides_err {fo md : Int} {t1 t2 : Nd} (hm : md = 1 ∨ md = 2 ∨ md = 3) : errS fo 204 (.mk 3 md 0 0 false ⟨#[]⟩ [] [.mk 3 0 0 0 false ⟨#[]⟩ [] [t1], .mk 3 0 0 0 false ⟨#[]⟩ [] [t2]]) = 0 ↔ errS fo 203 (.mk 3 0 0 0 false ⟨#[]⟩ [] [t1]) = 0 ∧ errS fo 203 (.mk 3 0 0 0 false ⟨#[]⟩ [] [t2]) = 0 := by
  have hc : canN 204 (.mk 3 md 0 0 false ⟨#[]⟩ [] [.mk 3 0 0 0 false ⟨#[]⟩ [] [t1], .mk 3 0 0 0 false ⟨#[]⟩ [] [t2]]) = (canN 203 (.mk 3 0 0 0 false ⟨#[]⟩ [] [t1]) && canN 203 (.mk 3 0 0 0 false ⟨#[]⟩ [] [t2])) := by
    rw [canN]
    have : classK md 2 = true := by rcases hm with rfl | rfl | rfl <;> rfl
    simp [Nd.kids, Nd.kind, Nd.mode, leafK, this]
  have he : errN 204 (.mk 3 md 0 0 false ⟨#[]⟩ [] [.mk 3 0 0 0 false ⟨#[]⟩ [] [t1], .mk 3 0 0 0 false ⟨#[]⟩ [] [t2]]) = firstE [errN 203 (.mk 3 0 0 0 false ⟨#[]⟩ [] [t1]), errN 203 (.mk 3 0 0 0 false ⟨#[]⟩ [] [t2])] := by rw [errN]; simp [Nd.kind, Nd.kids]
  unfold errS
  rw [hc, he]
  by_cases hf : 0 ≤ fo ∧ fo ≤ 2
  · cases canN 203 (.mk 3 0 0 0 false ⟨#[]⟩ [] [t1]) <;> cases canN 203 (.mk 3 0 0 0 false ⟨#[]⟩ [] [t2]) <;> simp [hf]
    by_cases h1 : errN 203 (.mk 3 0 0 0 false ⟨#[]⟩ [] [t1]) = 0
    · by_cases h2 : errN 203 (.mk 3 0 0 0 false ⟨#[]⟩ [] [t2]) = 0
      · simp [firstE, h1, h2]
      · simp [firstE, h1, h2]
    · simp [firstE, h1]
  · simp [hf]
theorem sides_fit {c d : Bool} {fo md : Int} {t1 t2 : Nd} {x y r q : List R} (hx : IsP x (fitN c fo d 203 (.mk 3 0 0 0 false ⟨#[]⟩ [] [t1]))) (hy : IsP y (fitN c fo d 203 (.mk 3 0 0 0 false ⟨#[]⟩ [] [t2]))) (hr : IsP r (fitN c fo d 204 (.mk 3 md 0 0 false ⟨#[]⟩ [] [.mk 3 0 0 0 false ⟨#[]⟩ [] [t1], .mk 3 0 0 0 false ⟨#[]⟩ [] [t2]]))) (K : Bool → Bool → Bool) (hq : IsSet q (fun z => K (has x z) (has y z))) (hK : ∀ P Q : Prop, ∀ a b : Bool, (a = true ↔ P) → (b = true ↔ Q) → (K a b = true ↔ combP md [fun _ => P, fun _ => Q] 0)) : r = q := by
  refine hr.eq (isP_set hq (P := fun z => combP md [fun _ => fitN c fo d 203 (.mk 3 0 0 0 false ⟨#[]⟩ [] [t1]) z, fun _ => fitN c fo d 203 (.mk 3 0 0 0 false ⟨#[]⟩ [] [t2]) z] 0) (fun z hz => hK _ _ _ _ (hx.2 z hz) (hy.2 z hz))) (fun z _ => ?_)
  show negP false (combP md [fitN c fo d 203 (.mk 3 0 0 0 false ⟨#[]⟩ [] [t1]), fitN c fo d 203 (.mk 3 0 0 0 false ⟨#[]⟩ [] [t2])]) z ↔ _
  unfold negP combP
  simp
set_option maxHeartbeats 8000000 in
set_option maxRecDepth 1000000 in
theorem sides_walk (v1 : Value) (t1 : Nd) (v2 : Value) (t2 : Nd) (c d mu : Bool) (fo : Int) (w : World) (hv1 : NV w.heap.size w t1 v1) (hv2 : NV w.heap.size w t2 v2) (hs1 : shortN t1) (hs2 : shortN t2) (E : prp.Env w) :
    Calls Tryz.prog 5 #[v1, v2, .agg #[.bool c, .bool d, .bool mu, .int .i64 fo]] w fun e w' => e = .returned (.bool true) ∧ Below w.heap.size w w' := by
  have HV1 : Hid (NV w.heap.size w t1 v1) := hv1
  have HV2 : Hid (NV w.heap.size w t2 v2) := hv2
  obtain ⟨kA, mA, aA, bA, gA, nA, sA, ksA, taA, tcA, kaA, kcA, ht1, rfl, _⟩ := hv1.open
  obtain ⟨kB, mB, aB, bB, gB, nB, sB, ksB, taB, tcB, kaB, kcB, ht2, rfl, _⟩ := hv2.open
  clear hv1 hv2 ht1 ht2
  generalize sA.length = tlA at *
  generalize ksA.length = klA at *
  generalize sB.length = tlB at *
  generalize ksB.length = klB at *
  have HE : Hid (prp.Env w) := E
  have HS1 : Hid (shortN t1) := hs1
  have HS2 : Hid (shortN t2) := hs2
  have HB0 : Hid (Below w.heap.size w (((w.alloc (.cells #[.int .i64 kA, .int .i64 mA, .int .i64 aA, .int .i64 bA, .bool gA, .string nA, .slice taA tlA tcA, .slice kaA klA kcA] 37)).alloc (.cells #[.int .i64 kB, .int .i64 mB, .int .i64 aB, .int .i64 bB, .bool gB, .string nB, .slice taB tlB tcB, .slice kaB klB kcB] 37)).alloc (.cells #[.bool c, .bool d, .bool mu, .int .i64 fo] 24))) := (below2 w _ _).alloc (by simp; omega) _
  have HA0 : Hid (Bk (((w.alloc (.cells #[.int .i64 kA, .int .i64 mA, .int .i64 aA, .int .i64 bA, .bool gA, .string nA, .slice taA tlA tcA, .slice kaA klA kcA] 37)).alloc (.cells #[.int .i64 kB, .int .i64 mB, .int .i64 aB, .int .i64 bB, .bool gB, .string nB, .slice taB tlB tcB, .slice kaB klB kcB] 37)).alloc (.cells #[.bool c, .bool d, .bool mu, .int .i64 fo] 24)) w.heap.size #[.int .i64 kA, .int .i64 mA, .int .i64 aA, .int .i64 bA, .bool gA, .string nA, .slice taA tlA tcA, .slice kaA klA kcA] 37) := ((Bk.new w _ _).past _).past _
  have HN0 : Hid (Bk (((w.alloc (.cells #[.int .i64 kA, .int .i64 mA, .int .i64 aA, .int .i64 bA, .bool gA, .string nA, .slice taA tlA tcA, .slice kaA klA kcA] 37)).alloc (.cells #[.int .i64 kB, .int .i64 mB, .int .i64 aB, .int .i64 bB, .bool gB, .string nB, .slice taB tlB tcB, .slice kaB klB kcB] 37)).alloc (.cells #[.bool c, .bool d, .bool mu, .int .i64 fo] 24)) (w.heap.size + 1) #[.int .i64 kB, .int .i64 mB, .int .i64 aB, .int .i64 bB, .bool gB, .string nB, .slice taB tlB tcB, .slice kaB klB kcB] 37) := bk2.past _
  have HO0 : Hid (Bk (((w.alloc (.cells #[.int .i64 kA, .int .i64 mA, .int .i64 aA, .int .i64 bA, .bool gA, .string nA, .slice taA tlA tcA, .slice kaA klA kcA] 37)).alloc (.cells #[.int .i64 kB, .int .i64 mB, .int .i64 aB, .int .i64 bB, .bool gB, .string nB, .slice taB tlB tcB, .slice kaB klB kcB] 37)).alloc (.cells #[.bool c, .bool d, .bool mu, .int .i64 fo] 24)) (w.heap.size + 1 + 1) #[.bool c, .bool d, .bool mu, .int .i64 fo] 24) := by
    have := Bk.new ((w.alloc (.cells #[.int .i64 kA, .int .i64 mA, .int .i64 aA, .int .i64 bA, .bool gA, .string nA, .slice taA tlA tcA, .slice kaA klA kcA] 37)).alloc (.cells #[.int .i64 kB, .int .i64 mB, .int .i64 aB, .int .i64 bB, .bool gB, .string nB, .slice taB tlB tcB, .slice kaB klB kcB] 37)) #[.bool c, .bool d, .bool mu, .int .i64 fo] 24
    simp only [World.size_alloc] at this
    exact this
  clear E hs1 hs2
  have C := deep_any t1 _ 100 60 (((w.alloc (.cells #[.int .i64 kA, .int .i64 mA, .int .i64 aA, .int .i64 bA, .bool gA, .string nA, .slice taA tlA tcA, .slice kaA klA kcA] 37)).alloc (.cells #[.int .i64 kB, .int .i64 mB, .int .i64 aB, .int .i64 bB, .bool gB, .string nB, .slice taB tlB tcB, .slice kaB klB kcB] 37)).alloc (.cells #[.bool c, .bool d, .bool mu, .int .i64 fo] 24)) ((HV1.out.keep HB0.out).wide HB0.out.size) (by decide) (by decide) (by decide) (by decide)
  obtain ⟨dp, hdp⟩ : ∃ x, (fewN t1 100 60).2 = x := ⟨_, rfl⟩
  rw [hdp] at C
  go_enter Tryz.func5, Tryz.ntmps5
  go_wp2_with fail
  refine C.mono ?_
  rintro e w1 ⟨rfl, b1⟩
  clear C
  have HB1 : Hid (Below w.heap.size w w1) := HB0.out.trans (b1.mono HB0.out.size)
  have HA1 : Hid (Bk w1 w.heap.size #[.int .i64 kA, .int .i64 mA, .int .i64 aA, .int .i64 bA, .bool gA, .string nA, .slice taA tlA tcA, .slice kaA klA kcA] 37) := HA0.out.on b1
  have HN1 : Hid (Bk w1 (w.heap.size + 1) #[.int .i64 kB, .int .i64 mB, .int .i64 aB, .int .i64 bB, .bool gB, .string nB, .slice taB tlB tcB, .slice kaB klB kcB] 37) := HN0.out.on b1
  have HO1 : Hid (Bk w1 (w.heap.size + 1 + 1) #[.bool c, .bool d, .bool mu, .int .i64 fo] 24) := HO0.out.on b1
  clear b1 HB0 HA0 HN0 HO0
  cases dp with
  | false =>
    have C := awake_any w1 (HE.out.below HB1.out)
    clear hdp
    go_wp2_with fail
    refine C.mono ?_
    rintro e w2 ⟨rfl, b2⟩
    clear C
    go_wp2
    go_ret
    exact ⟨rfl, HB1.out.trans (b2.mono HB1.out.size)⟩
  | true =>
  have hsz1 := deep_facts hdp
  have HZ1 : Hid (t1.sz ≤ 100) := by show _ ≤ _; omega
  clear hdp hsz1
  have C := deep_any t2 _ 100 60 w1 ((HV2.out.keep HB1.out).wide HB1.out.size) (by decide) (by decide) (by decide) (by decide)
  obtain ⟨dp, hdp⟩ : ∃ x, (fewN t2 100 60).2 = x := ⟨_, rfl⟩
  rw [hdp] at C
  obtain ⟨n0, n1, n2, n3, n4, n5, n6, n7⟩ := cells8 HN1.out
  go_wp2_with fail
  refine C.mono ?_
  rintro e w2 ⟨rfl, b1⟩
  clear C n0 n1 n2 n3 n4 n5 n6 n7
  have HB2 : Hid (Below w.heap.size w w2) := HB1.out.trans (b1.mono HB1.out.size)
  have HA2 : Hid (Bk w2 w.heap.size #[.int .i64 kA, .int .i64 mA, .int .i64 aA, .int .i64 bA, .bool gA, .string nA, .slice taA tlA tcA, .slice kaA klA kcA] 37) := HA1.out.on b1
  have HN2 : Hid (Bk w2 (w.heap.size + 1) #[.int .i64 kB, .int .i64 mB, .int .i64 aB, .int .i64 bB, .bool gB, .string nB, .slice taB tlB tcB, .slice kaB klB kcB] 37) := HN1.out.on b1
  have HO2 : Hid (Bk w2 (w.heap.size + 1 + 1) #[.bool c, .bool d, .bool mu, .int .i64 fo] 24) := HO1.out.on b1
  clear b1 HB1 HA1 HN1 HO1
  cases dp with
  | false =>
    have C := awake_any w2 (HE.out.below HB2.out)
    clear hdp
    go_wp2_with fail
    refine C.mono ?_
    rintro e w3 ⟨rfl, b2⟩
    clear C
    go_wp2
    go_ret
    exact ⟨rfl, HB2.out.trans (b2.mono HB2.out.size)⟩
  | true =>
  have hsz2 := deep_facts hdp
  have HZ2 : Hid (t2.sz ≤ 100) := by show _ ≤ _; omega
  clear hdp hsz2
  have C := prp.load_any w2 (HE.out.below HB2.out)
  go_wp2_with fail
  refine C.mono ?_
  rintro e w3 ⟨tb, rfl, hT, b1⟩
  clear C
  have HB3 : Hid (Below w.heap.size w w3) := HB2.out.trans (b1.mono HB2.out.size)
  have HA3 : Hid (Bk w3 w.heap.size #[.int .i64 kA, .int .i64 mA, .int .i64 aA, .int .i64 bA, .bool gA, .string nA, .slice taA tlA tcA, .slice kaA klA kcA] 37) := HA2.out.on b1
  have HN3 : Hid (Bk w3 (w.heap.size + 1) #[.int .i64 kB, .int .i64 mB, .int .i64 aB, .int .i64 bB, .bool gB, .string nB, .slice taB tlB tcB, .slice kaB klB kcB] 37) := HN2.out.on b1
  have HO3 : Hid (Bk w3 (w.heap.size + 1 + 1) #[.bool c, .bool d, .bool mu, .int .i64 fo] 24) := HO2.out.on b1
  have HT3 : Hid (prp.Tabs w3 tb) := hT
  clear b1 HB2 HA2 HN2 HO2 hT
  obtain ⟨er1, her1⟩ : ∃ x, errS fo 203 (.mk 3 0 0 0 false ⟨#[]⟩ [] [t1]) = x := ⟨_, rfl⟩
  obtain ⟨er2, her2⟩ : ∃ x, errS fo 203 (.mk 3 0 0 0 false ⟨#[]⟩ [] [t2]) = x := ⟨_, rfl⟩
  have HSET1 : Hid (∀ W kb, Below w.heap.size w W → Bk W kb #[.int .i64 kA, .int .i64 mA, .int .i64 aA, .int .i64 bA, .bool gA, .string nA, .slice taA tlA tcA, .slice kaA klA kcA] 37 → prp.Tabs W tb → Calls Tryz.prog 14 #[.pointer (some ⟨tb, 0, none⟩), .agg #[.int .i64 3, .int .i64 0, .int .i64 0, .int .i64 0, .bool false, .string ⟨#[]⟩, .slice none 0 0, .slice (some ⟨kb, 0, none⟩) 1 1], .agg #[.bool c, .bool d, .bool mu, .int .i64 fo]] W fun e w' => Ans W w' e er1 (fitN c fo d 203 (.mk 3 0 0 0 false ⟨#[]⟩ [] [t1]))) := fun W kb hb hk hT => by
    rw [← her1]
    exact Set_any 203 (by decide) _ _ _ W tb c d mu fo (Nat.le_trans (class_sz HZ1.out) (by decide)) (class_short HS1.out) (nv_class false 0 (i64s (by decide) (by decide)) HV1.out hb hk) (Nat.le_refl _) hT (HE.out.below hb)
  have HSET2 : Hid (∀ W kb, Below w.heap.size w W → Bk W kb #[.int .i64 kB, .int .i64 mB, .int .i64 aB, .int .i64 bB, .bool gB, .string nB, .slice taB tlB tcB, .slice kaB klB kcB] 37 → prp.Tabs W tb → Calls Tryz.prog 14 #[.pointer (some ⟨tb, 0, none⟩), .agg #[.int .i64 3, .int .i64 0, .int .i64 0, .int .i64 0, .bool false, .string ⟨#[]⟩, .slice none 0 0, .slice (some ⟨kb, 0, none⟩) 1 1], .agg #[.bool c, .bool d, .bool mu, .int .i64 fo]] W fun e w' => Ans W w' e er2 (fitN c fo d 203 (.mk 3 0 0 0 false ⟨#[]⟩ [] [t2]))) := fun W kb hb hk hT => by
    rw [← her2]
    exact Set_any 203 (by decide) _ _ _ W tb c d mu fo (Nat.le_trans (class_sz HZ2.out) (by decide)) (class_short HS2.out) (nv_class false 0 (i64s (by decide) (by decide)) HV2.out hb hk) (Nat.le_refl _) hT (HE.out.below hb)
  have HSET3 : Hid (∀ (md : Int) W x1 x2, (md = 1 ∨ md = 2 ∨ md = 3) → Below w.heap.size w W → Bk W x1 #[.int .i64 kA, .int .i64 mA, .int .i64 aA, .int .i64 bA, .bool gA, .string nA, .slice taA tlA tcA, .slice kaA klA kcA] 37 → Bk W x2 #[.int .i64 kB, .int .i64 mB, .int .i64 aB, .int .i64 bB, .bool gB, .string nB, .slice taB tlB tcB, .slice kaB klB kcB] 37 → prp.Tabs W tb → Calls Tryz.prog 14 #[.pointer (some ⟨tb, 0, none⟩), .agg #[.int .i64 3, .int .i64 md, .int .i64 0, .int .i64 0, .bool false, .string ⟨#[]⟩, .slice none 0 0, .slice (some ⟨W.heap.size, 0, none⟩) 2 2], .agg #[.bool c, .bool d, .bool mu, .int .i64 fo]] (W.alloc (.cells #[.int .i64 3, .int .i64 0, .int .i64 0, .int .i64 0, .bool false, .string ⟨#[]⟩, .slice none 0 0, .slice (some ⟨x1, 0, none⟩) 1 1, .int .i64 3, .int .i64 0, .int .i64 0, .int .i64 0, .bool false, .string ⟨#[]⟩, .slice none 0 0, .slice (some ⟨x2, 0, none⟩) 1 1] 37)) fun e w' => ∃ er3, (er3 = 0 ↔ er1 = 0 ∧ er2 = 0) ∧ Ans (W.alloc (.cells #[.int .i64 3, .int .i64 0, .int .i64 0, .int .i64 0, .bool false, .string ⟨#[]⟩, .slice none 0 0, .slice (some ⟨x1, 0, none⟩) 1 1, .int .i64 3, .int .i64 0, .int .i64 0, .int .i64 0, .bool false, .string ⟨#[]⟩, .slice none 0 0, .slice (some ⟨x2, 0, none⟩) 1 1] 37)) w' e er3 (fitN c fo d 204 (.mk 3 md 0 0 false ⟨#[]⟩ [] [.mk 3 0 0 0 false ⟨#[]⟩ [] [t1], .mk 3 0 0 0 false ⟨#[]⟩ [] [t2]]))) := fun md W x1 x2 hm hb h1 h2 hT => by
    have B1 : Below W.heap.size W (W.alloc (.cells #[.int .i64 3, .int .i64 0, .int .i64 0, .int .i64 0, .bool false, .string ⟨#[]⟩, .slice none 0 0, .slice (some ⟨x1, 0, none⟩) 1 1, .int .i64 3, .int .i64 0, .int .i64 0, .int .i64 0, .bool false, .string ⟨#[]⟩, .slice none 0 0, .slice (some ⟨x2, 0, none⟩) 1 1] 37)) := (Below.refl _ W).alloc (Nat.le_refl _) _
    refine (Set_any 204 (by decide) _ _ _ (W.alloc (.cells #[.int .i64 3, .int .i64 0, .int .i64 0, .int .i64 0, .bool false, .string ⟨#[]⟩, .slice none 0 0, .slice (some ⟨x1, 0, none⟩) 1 1, .int .i64 3, .int .i64 0, .int .i64 0, .int .i64 0, .bool false, .string ⟨#[]⟩, .slice none 0 0, .slice (some ⟨x2, 0, none⟩) 1 1] 37)) tb c d mu fo (sides_sz HZ1.out HZ2.out) (sides_short HS1.out HS2.out) (nv_sides md (by rcases hm with rfl | rfl | rfl <;> exact i64s (by decide) (by decide)) HV1.out HV2.out hb h1 h2) (by simp) (hT.below B1) (HE.out.below (hb.trans (B1.mono hb.size)))).mono ?_
    intro e w' h
    exact ⟨_, by rw [← her1, ← her2]; exact sides_err hm, h⟩
  clear HZ1 HZ2 HS1 HS2 HV1 HV2 her1 her2
  have y0 := cells8 HA3.out
  have y1 := cells8 HN3.out
  have y2 := cells4 HO3.out
  go_wp2
  go_region_held3 (fun w' => w'.cell? ⟨w.heap.size, 0, none⟩ = some (.int .i64 kA) ∧ w'.cell? ⟨w.heap.size, 1, none⟩ = some (.int .i64 mA) ∧ w'.cell? ⟨w.heap.size, 2, none⟩ = some (.int .i64 aA) ∧ w'.cell? ⟨w.heap.size, 3, none⟩ = some (.int .i64 bA) ∧ w'.cell? ⟨w.heap.size, 4, none⟩ = some (.bool gA) ∧ w'.cell? ⟨w.heap.size, 5, none⟩ = some (.string nA) ∧ w'.cell? ⟨w.heap.size, 6, none⟩ = some (.slice taA tlA tcA) ∧ w'.cell? ⟨w.heap.size, 7, none⟩ = some (.slice kaA klA kcA) ∧ w'.cell? ⟨w.heap.size + 1, 0, none⟩ = some (.int .i64 kB) ∧ w'.cell? ⟨w.heap.size + 1, 1, none⟩ = some (.int .i64 mB) ∧ w'.cell? ⟨w.heap.size + 1, 2, none⟩ = some (.int .i64 aB) ∧ w'.cell? ⟨w.heap.size + 1, 3, none⟩ = some (.int .i64 bB) ∧ w'.cell? ⟨w.heap.size + 1, 4, none⟩ = some (.bool gB) ∧ w'.cell? ⟨w.heap.size + 1, 5, none⟩ = some (.string nB) ∧ w'.cell? ⟨w.heap.size + 1, 6, none⟩ = some (.slice taB tlB tcB) ∧ w'.cell? ⟨w.heap.size + 1, 7, none⟩ = some (.slice kaB klB kcB) ∧ w'.cell? ⟨w.heap.size + 1 + 1, 0, none⟩ = some (.bool c) ∧ w'.cell? ⟨w.heap.size + 1 + 1, 1, none⟩ = some (.bool d) ∧ w'.cell? ⟨w.heap.size + 1 + 1, 2, none⟩ = some (.bool mu) ∧ w'.cell? ⟨w.heap.size + 1 + 1, 3, none⟩ = some (.int .i64 fo)) (go_keep) (first
    | (go_at_call 18; refine (side_any kA mA aA bA gA nA taA tlA tcA kaA klA kcA _).mono ?_; rintro e w4 ⟨kb4, rfl, hk, b0⟩; have b3 : Below w3.heap.size w3 w4 := (Below.refl _ w3).drew.trans b0; have HK4 : Hid (Bk w4 kb4 _ _) := hk; have HB4 : Hid (Below w.heap.size w w4) := HB3.out.trans (b3.mono HB3.out.size); have HA4 : Hid (Bk w4 w.heap.size _ _) := HA3.out.on b3; have HN4 : Hid (Bk w4 (w.heap.size + 1) _ _) := HN3.out.on b3; have HO4 : Hid (Bk w4 (w.heap.size + 1 + 1) _ _) := HO3.out.on b3; have HT4 : Hid (prp.Tabs w4 tb) := HT3.out.below b3;  have za4 := cells8 HA4.out; have zb4 := cells8 HN4.out; have zo4 := cells4 HO4.out; clear hk b0 b3)
    | (go_at_call 14; refine (HSET1.out _ _ HB4.out HK4.out HT4.out).mono ?_; rintro e w5 ⟨v5, r5, rfl, o4, i4, j4, b4⟩; have HR5 : Hid (Sl w5 v5 r5) := o4.sl; have HI5 : Hid (er1 = 0 → IsP r5 (fitN c fo d 203 (.mk 3 0 0 0 false ⟨#[]⟩ [] [t1]))) := i4; have HB5 : Hid (Below w.heap.size w w5) := HB4.out.trans (b4.mono HB4.out.size); have HA5 : Hid (Bk w5 w.heap.size _ _) := HA4.out.on b4; have HN5 : Hid (Bk w5 (w.heap.size + 1) _ _) := HN4.out.on b4; have HO5 : Hid (Bk w5 (w.heap.size + 1 + 1) _ _) := HO4.out.on b4; have HT5 : Hid (prp.Tabs w5 tb) := HT4.out.below b4;  have za5 := cells8 HA5.out; have zb5 := cells8 HN5.out; have zo5 := cells4 HO5.out; clear o4 i4 j4 b4))
  clear y0 y1 y2 za4 zb4 zo4 HSET1 HK4 HA4 HN4 HO4 HT4 HB4 HA3 HN3 HO3 HT3 HB3
  obtain ⟨xa, xc, hxv⟩ := rng_sl HR5.out
  subst hxv
  obtain ⟨xn, hxn⟩ : ∃ x, r5.length = x := ⟨_, rfl⟩
  rw [hxn] at HR5 ⊢
  clear hxn
  go_wp2
  go_region_held3 (fun w' => w'.cell? ⟨w.heap.size, 0, none⟩ = some (.int .i64 kA) ∧ w'.cell? ⟨w.heap.size, 1, none⟩ = some (.int .i64 mA) ∧ w'.cell? ⟨w.heap.size, 2, none⟩ = some (.int .i64 aA) ∧ w'.cell? ⟨w.heap.size, 3, none⟩ = some (.int .i64 bA) ∧ w'.cell? ⟨w.heap.size, 4, none⟩ = some (.bool gA) ∧ w'.cell? ⟨w.heap.size, 5, none⟩ = some (.string nA) ∧ w'.cell? ⟨w.heap.size, 6, none⟩ = some (.slice taA tlA tcA) ∧ w'.cell? ⟨w.heap.size, 7, none⟩ = some (.slice kaA klA kcA) ∧ w'.cell? ⟨w.heap.size + 1, 0, none⟩ = some (.int .i64 kB) ∧ w'.cell? ⟨w.heap.size + 1, 1, none⟩ = some (.int .i64 mB) ∧ w'.cell? ⟨w.heap.size + 1, 2, none⟩ = some (.int .i64 aB) ∧ w'.cell? ⟨w.heap.size + 1, 3, none⟩ = some (.int .i64 bB) ∧ w'.cell? ⟨w.heap.size + 1, 4, none⟩ = some (.bool gB) ∧ w'.cell? ⟨w.heap.size + 1, 5, none⟩ = some (.string nB) ∧ w'.cell? ⟨w.heap.size + 1, 6, none⟩ = some (.slice taB tlB tcB) ∧ w'.cell? ⟨w.heap.size + 1, 7, none⟩ = some (.slice kaB klB kcB) ∧ w'.cell? ⟨w.heap.size + 1 + 1, 0, none⟩ = some (.bool c) ∧ w'.cell? ⟨w.heap.size + 1 + 1, 1, none⟩ = some (.bool d) ∧ w'.cell? ⟨w.heap.size + 1 + 1, 2, none⟩ = some (.bool mu) ∧ w'.cell? ⟨w.heap.size + 1 + 1, 3, none⟩ = some (.int .i64 fo)) (go_keep) (first
    | (go_at_call 18; refine (side_any kB mB aB bB gB nB taB tlB tcB kaB klB kcB _).mono ?_; rintro e w6 ⟨kb6, rfl, hk, b0⟩; have b3 : Below w5.heap.size w5 w6 := (Below.refl _ w5).drew.trans b0; have HK6 : Hid (Bk w6 kb6 _ _) := hk; have HB6 : Hid (Below w.heap.size w w6) := HB5.out.trans (b3.mono HB5.out.size); have HA6 : Hid (Bk w6 w.heap.size _ _) := HA5.out.on b3; have HN6 : Hid (Bk w6 (w.heap.size + 1) _ _) := HN5.out.on b3; have HO6 : Hid (Bk w6 (w.heap.size + 1 + 1) _ _) := HO5.out.on b3; have HT6 : Hid (prp.Tabs w6 tb) := HT5.out.below b3; have HX6 : Hid (Sl w6 (.slice xa xn xc) r5) := HR5.out.below b3; have za6 := cells8 HA6.out; have zb6 := cells8 HN6.out; have zo6 := cells4 HO6.out; clear hk b0 b3)
    | (go_at_call 14; refine (HSET2.out _ _ HB6.out HK6.out HT6.out).mono ?_; rintro e w7 ⟨v7, r7, rfl, o4, i4, j4, b4⟩; have HR7 : Hid (Sl w7 v7 r7) := o4.sl; have HI7 : Hid (er2 = 0 → IsP r7 (fitN c fo d 203 (.mk 3 0 0 0 false ⟨#[]⟩ [] [t2]))) := i4; have HB7 : Hid (Below w.heap.size w w7) := HB6.out.trans (b4.mono HB6.out.size); have HA7 : Hid (Bk w7 w.heap.size _ _) := HA6.out.on b4; have HN7 : Hid (Bk w7 (w.heap.size + 1) _ _) := HN6.out.on b4; have HO7 : Hid (Bk w7 (w.heap.size + 1 + 1) _ _) := HO6.out.on b4; have HT7 : Hid (prp.Tabs w7 tb) := HT6.out.below b4; have HX7 : Hid (Sl w7 (.slice xa xn xc) r5) := HX6.out.below b4; have za7 := cells8 HA7.out; have zb7 := cells8 HN7.out; have zo7 := cells4 HO7.out; clear o4 i4 j4 b4))
  clear za5 zb5 zo5 za6 zb6 zo6 za7 zb7 zo7 HSET2 HK6 HA6 HN6 HO6 HT6 HB6 HA5 HN5 HO5 HT5 HB5 HR5 HX6
  obtain ⟨ya, yc, hyv⟩ := rng_sl HR7.out
  subst hyv
  obtain ⟨yn, hyn⟩ : ∃ x, r7.length = x := ⟨_, rfl⟩
  rw [hyn] at HR7 ⊢
  clear hyn
  go_wp2
  go_loopw [13] (fun i wr => ∃ md : Int, 1 ≤ md ∧ md ≤ 4 ∧ i = .int .i64 md ∧ Hid (Below w.heap.size w wr) ∧ Hid (Bk wr w.heap.size #[.int .i64 kA, .int .i64 mA, .int .i64 aA, .int .i64 bA, .bool gA, .string nA, .slice taA tlA tcA, .slice kaA klA kcA] 37) ∧ Hid (Bk wr (w.heap.size + 1) #[.int .i64 kB, .int .i64 mB, .int .i64 aB, .int .i64 bB, .bool gB, .string nB, .slice taB tlB tcB, .slice kaB klB kcB] 37) ∧ Hid (Bk wr (w.heap.size + 1 + 1) #[.bool c, .bool d, .bool mu, .int .i64 fo] 24) ∧ Hid (prp.Tabs wr tb) ∧ Hid (Sl wr (.slice xa xn xc) r5) ∧ Hid (Sl wr (.slice ya yn yc) r7)) (fun i _ => (4 - RowKit.intOf i).toNat)
  case atStart => exact ⟨1, by decide, by decide, rfl, HB7, HA7, HN7, HO7, HT7, HX7, HR7⟩
  case round =>
    clear HB7 HA7 HN7 HO7 HT7 HX7 HR7
    obtain ⟨md, hm1, hm4, rfl, HB, HA, HN, HO, HT, HX, HY⟩ := hrel
    by_cases hlt : md ≤ 3
    · have hmd : Hid (md = 1 ∨ md = 2 ∨ md = 3) := by show _ ∨ _; omega
      have y0 := cells8 HA.out
      have y1 := cells8 HN.out
      have y2 := cells4 HO.out
      go_wp2
      go_region_held3 (fun w' => w'.cell? ⟨w.heap.size, 0, none⟩ = some (.int .i64 kA) ∧ w'.cell? ⟨w.heap.size, 1, none⟩ = some (.int .i64 mA) ∧ w'.cell? ⟨w.heap.size, 2, none⟩ = some (.int .i64 aA) ∧ w'.cell? ⟨w.heap.size, 3, none⟩ = some (.int .i64 bA) ∧ w'.cell? ⟨w.heap.size, 4, none⟩ = some (.bool gA) ∧ w'.cell? ⟨w.heap.size, 5, none⟩ = some (.string nA) ∧ w'.cell? ⟨w.heap.size, 6, none⟩ = some (.slice taA tlA tcA) ∧ w'.cell? ⟨w.heap.size, 7, none⟩ = some (.slice kaA klA kcA) ∧ w'.cell? ⟨w.heap.size + 1, 0, none⟩ = some (.int .i64 kB) ∧ w'.cell? ⟨w.heap.size + 1, 1, none⟩ = some (.int .i64 mB) ∧ w'.cell? ⟨w.heap.size + 1, 2, none⟩ = some (.int .i64 aB) ∧ w'.cell? ⟨w.heap.size + 1, 3, none⟩ = some (.int .i64 bB) ∧ w'.cell? ⟨w.heap.size + 1, 4, none⟩ = some (.bool gB) ∧ w'.cell? ⟨w.heap.size + 1, 5, none⟩ = some (.string nB) ∧ w'.cell? ⟨w.heap.size + 1, 6, none⟩ = some (.slice taB tlB tcB) ∧ w'.cell? ⟨w.heap.size + 1, 7, none⟩ = some (.slice kaB klB kcB) ∧ w'.cell? ⟨w.heap.size + 1 + 1, 0, none⟩ = some (.bool c) ∧ w'.cell? ⟨w.heap.size + 1 + 1, 1, none⟩ = some (.bool d) ∧ w'.cell? ⟨w.heap.size + 1 + 1, 2, none⟩ = some (.bool mu) ∧ w'.cell? ⟨w.heap.size + 1 + 1, 3, none⟩ = some (.int .i64 fo)) (go_keep) (first
        | (go_at_call_of 18 (Value.agg #[.int .i64 kA, .int .i64 mA, .int .i64 aA, .int .i64 bA, .bool gA, .string nA, .slice taA tlA tcA, .slice kaA klA kcA]); refine (side_any kA mA aA bA gA nA taA tlA tcA kaA klA kcA _).mono ?_; rintro e z1 ⟨x1, rfl, hk, b0⟩; have b3 : Below wr.heap.size wr z1 := (Below.refl _ wr).drew.trans b0; have K1 : Hid (Bk z1 x1 #[.int .i64 kA, .int .i64 mA, .int .i64 aA, .int .i64 bA, .bool gA, .string nA, .slice taA tlA tcA, .slice kaA klA kcA] 37) := hk; have B1 : Hid (Below w.heap.size w z1) := HB.out.trans (b3.mono HB.out.size); have A1 : Hid (Bk z1 w.heap.size _ _) := HA.out.on b3; have N1 : Hid (Bk z1 (w.heap.size + 1) _ _) := HN.out.on b3; have O1 : Hid (Bk z1 (w.heap.size + 1 + 1) _ _) := HO.out.on b3; have TT1 : Hid (prp.Tabs z1 tb) := HT.out.below b3; have X1 : Hid (Sl z1 (.slice xa xn xc) r5) := HX.out.below b3; have Y1 : Hid (Sl z1 (.slice ya yn yc) r7) := HY.out.below b3; have za := cells8 A1.out; have zb := cells8 N1.out; have zo := cells4 O1.out; clear hk b0 b3)
        | (go_at_call_of 18 (Value.agg #[.int .i64 kB, .int .i64 mB, .int .i64 aB, .int .i64 bB, .bool gB, .string nB, .slice taB tlB tcB, .slice kaB klB kcB]); refine (side_any kB mB aB bB gB nB taB tlB tcB kaB klB kcB _).mono ?_; rintro e z2 ⟨x2, rfl, hk, b3⟩; have K2 : Hid (Bk z2 x2 #[.int .i64 kB, .int .i64 mB, .int .i64 aB, .int .i64 bB, .bool gB, .string nB, .slice taB tlB tcB, .slice kaB klB kcB] 37) := hk; have K1' : Hid (Bk z2 x1 #[.int .i64 kA, .int .i64 mA, .int .i64 aA, .int .i64 bA, .bool gA, .string nA, .slice taA tlA tcA, .slice kaA klA kcA] 37) := K1.out.on b3; have B2 : Hid (Below w.heap.size w z2) := B1.out.trans (b3.mono B1.out.size); have A2 : Hid (Bk z2 w.heap.size _ _) := A1.out.on b3; have N2 : Hid (Bk z2 (w.heap.size + 1) _ _) := N1.out.on b3; have O2 : Hid (Bk z2 (w.heap.size + 1 + 1) _ _) := O1.out.on b3; have TT2 : Hid (prp.Tabs z2 tb) := TT1.out.below b3; have X2 : Hid (Sl z2 (.slice xa xn xc) r5) := X1.out.below b3; have Y2 : Hid (Sl z2 (.slice ya yn yc) r7) := Y1.out.below b3; have za' := cells8 (A2.out.past (.cells #[.int .i64 3, .int .i64 0, .int .i64 0, .int .i64 0, .bool false, .string ⟨#[]⟩, .slice none 0 0, .slice (some ⟨x1, 0, none⟩) 1 1, .int .i64 3, .int .i64 0, .int .i64 0, .int .i64 0, .bool false, .string ⟨#[]⟩, .slice none 0 0, .slice (some ⟨x2, 0, none⟩) 1 1] 37)); have zb' := cells8 (N2.out.past (.cells #[.int .i64 3, .int .i64 0, .int .i64 0, .int .i64 0, .bool false, .string ⟨#[]⟩, .slice none 0 0, .slice (some ⟨x1, 0, none⟩) 1 1, .int .i64 3, .int .i64 0, .int .i64 0, .int .i64 0, .bool false, .string ⟨#[]⟩, .slice none 0 0, .slice (some ⟨x2, 0, none⟩) 1 1] 37)); have zo' := cells4 (O2.out.past (.cells #[.int .i64 3, .int .i64 0, .int .i64 0, .int .i64 0, .bool false, .string ⟨#[]⟩, .slice none 0 0, .slice (some ⟨x1, 0, none⟩) 1 1, .int .i64 3, .int .i64 0, .int .i64 0, .int .i64 0, .bool false, .string ⟨#[]⟩, .slice none 0 0, .slice (some ⟨x2, 0, none⟩) 1 1] 37)); have zc' := cells8 A2.out; have zd' := cells8 N2.out; have ze' := cells4 O2.out; clear hk b3)
        | (go_at_call 14; refine (HSET3.out md _ x1 x2 hmd.out B2.out K1'.out K2.out TT2.out).mono ?_; rintro e z4 ⟨er3, h3, v4, r4, rfl, o4, i4, j4, b0⟩; have b4 : Below z2.heap.size z2 z4 := ((Below.refl _ z2).alloc (Nat.le_refl _) _).trans (b0.mono (by simp)); have HR : Hid (Sl z4 v4 r4) := o4.sl; have H3 : Hid (er3 = 0 ↔ er1 = 0 ∧ er2 = 0) := h3; have HI : Hid (er3 = 0 → IsP r4 (fitN c fo d 204 (.mk 3 md 0 0 false ⟨#[]⟩ [] [.mk 3 0 0 0 false ⟨#[]⟩ [] [t1], .mk 3 0 0 0 false ⟨#[]⟩ [] [t2]]))) := i4; have HJ : Hid (¬ er3 = 0 → r4 = []) := j4; have B4 : Hid (Below w.heap.size w z4) := B2.out.trans (b4.mono B2.out.size); have A4 : Hid (Bk z4 w.heap.size _ _) := A2.out.on b4; have N4 : Hid (Bk z4 (w.heap.size + 1) _ _) := N2.out.on b4; have O4 : Hid (Bk z4 (w.heap.size + 1 + 1) _ _) := O2.out.on b4; have TT4 : Hid (prp.Tabs z4 tb) := TT2.out.below b4; have X4 : Hid (Sl z4 (.slice xa xn xc) r5) := X2.out.below b4; have Y4 : Hid (Sl z4 (.slice ya yn yc) r7) := Y2.out.below b4; have va := cells8 A4.out; have vb := cells8 N4.out; have vo := cells4 O4.out; clear h3 o4 i4 j4 b0 b4))
      clear y0 y1 y2 za zb zo za' zb' zo' zc' zd' ze' va vb vo K1 K1' K2 A1 N1 O1 TT1 X1 Y1 B1 A2 N2 O2 TT2 X2 Y2 B2 HA HN HO HT HX HY HB
      obtain ⟨zsa, zsc, hzv⟩ := rng_sl HR.out
      subst hzv
      obtain ⟨zn, hzn⟩ : ∃ x, r4.length = x := ⟨_, rfl⟩
      have HZN : Hid (r4.length = zn) := hzn
      rw [hzn] at HR ⊢
      clear hzn
      by_cases h1 : er1 = 0
      · by_cases h2 : er2 = 0
        · have h3 : er3 = 0 := H3.out.2 ⟨h1, h2⟩
          have P4 : Hid (IsP r4 (fitN c fo d 204 (.mk 3 md 0 0 false ⟨#[]⟩ [] [.mk 3 0 0 0 false ⟨#[]⟩ [] [t1], .mk 3 0 0 0 false ⟨#[]⟩ [] [t2]]))) := HI.out h3
          have P5 : Hid (IsP r5 (fitN c fo d 203 (.mk 3 0 0 0 false ⟨#[]⟩ [] [t1]))) := HI5.out h1
          have P7 : Hid (IsP r7 (fitN c fo d 203 (.mk 3 0 0 0 false ⟨#[]⟩ [] [t2]))) := HI7.out h2
          have l4 := P4.out.len
          have l5 := P5.out.len
          have l7 := P7.out.len
          subst h1 h2 h3
          clear HI HJ H3 HZN HSET3 HI5 HI7
          rcases hmd.out with rfl | rfl | rfl
          all_goals clear hmd hm1 hm4 hlt
          · skip
            have C := rng.rmeet_s (.slice xa xn xc) (.slice ya yn yc) r5 r7 z4 X4.out Y4.out (by omega) (by omega)
            go_wp2_with fail
            refine C.mono ?_
            rintro e z5 ⟨v5, q5, rfl, s5, h5, b5⟩
            clear C
            obtain ⟨qa, qc, hv5⟩ := rng_sl s5
            subst hv5
            have B5 : Hid (Below w.heap.size w z5) := B4.out.trans (b5.mono B4.out.size)
            have X5 : Hid (Sl z5 (.slice xa xn xc) r5) := X4.out.below b5
            have Y5 : Hid (Sl z5 (.slice ya yn yc) r7) := Y4.out.below b5
            have Z5 : Hid (Sl z5 (.slice zsa zn zsc) r4) := HR.out.below b5
            have A5 : Hid (Bk z5 w.heap.size #[.int .i64 kA, .int .i64 mA, .int .i64 aA, .int .i64 bA, .bool gA, .string nA, .slice taA tlA tcA, .slice kaA klA kcA] 37) := A4.out.on b5
            have N5 : Hid (Bk z5 (w.heap.size + 1) #[.int .i64 kB, .int .i64 mB, .int .i64 aB, .int .i64 bB, .bool gB, .string nB, .slice taB tlB tcB, .slice kaB klB kcB] 37) := N4.out.on b5
            have O5 : Hid (Bk z5 (w.heap.size + 1 + 1) #[.bool c, .bool d, .bool mu, .int .i64 fo] 24) := O4.out.on b5
            have U5 : Hid (prp.Tabs z5 tb) := TT4.out.below b5
            clear b5 X4 Y4 HR A4 N4 O4 TT4 B4
            have HQ : Hid (r4 = q5) := sides_fit P5.out P7.out P4.out (fun a b => a && b) h5 (fun P Q a b h1 h2 => by rw [show combP 1 [fun _ => P, fun _ => Q] 0 = (P ∧ Q) from rfl, ← h1, ← h2]; simp)
            have C := rng.equal_s (.slice zsa zn zsc) (.slice qa q5.length qc) r4 q5 z5 Z5.out s5 (by omega) HQ.out
            clear h5 s5
            generalize q5.length = qn at *
            go_wp2_with fail
            refine C.mono ?_
            rintro e z8 ⟨rfl, b8⟩
            clear C
            have B8 : Hid (Below w.heap.size w z8) := B5.out.trans (b8.mono B5.out.size)
            have X8 : Hid (Sl z8 (.slice xa xn xc) r5) := X5.out.below b8
            have Y8 : Hid (Sl z8 (.slice ya yn yc) r7) := Y5.out.below b8
            have A8 : Hid (Bk z8 w.heap.size #[.int .i64 kA, .int .i64 mA, .int .i64 aA, .int .i64 bA, .bool gA, .string nA, .slice taA tlA tcA, .slice kaA klA kcA] 37) := A5.out.on b8
            have N8 : Hid (Bk z8 (w.heap.size + 1) #[.int .i64 kB, .int .i64 mB, .int .i64 aB, .int .i64 bB, .bool gB, .string nB, .slice taB tlB tcB, .slice kaB klB kcB] 37) := N5.out.on b8
            have O8 : Hid (Bk z8 (w.heap.size + 1 + 1) #[.bool c, .bool d, .bool mu, .int .i64 fo] 24) := O5.out.on b8
            have U8 : Hid (prp.Tabs z8 tb) := U5.out.below b8
            clear b8 X5 Y5 Z5 A5 N5 O5 U5 B5 P4 P5 P7 HQ
            go_wp2
            go_roundw
            case rel => exact ⟨2, by decide, by decide, by first | rfl | go_num, B8, A8, N8, O8, U8, X8, Y8⟩
            case measure => simp [RowKit.intOf]
          · skip
            have C := rng.rmeet_s (.slice xa xn xc) (.slice ya yn yc) r5 r7 z4 X4.out Y4.out (by omega) (by omega)
            go_wp2_with fail
            refine C.mono ?_
            rintro e z5 ⟨v5, q5, rfl, s5, h5, b5⟩
            clear C
            obtain ⟨qa, qc, hv5⟩ := rng_sl s5
            subst hv5
            have B5 : Hid (Below w.heap.size w z5) := B4.out.trans (b5.mono B4.out.size)
            have X5 : Hid (Sl z5 (.slice xa xn xc) r5) := X4.out.below b5
            have Y5 : Hid (Sl z5 (.slice ya yn yc) r7) := Y4.out.below b5
            have Z5 : Hid (Sl z5 (.slice zsa zn zsc) r4) := HR.out.below b5
            have A5 : Hid (Bk z5 w.heap.size #[.int .i64 kA, .int .i64 mA, .int .i64 aA, .int .i64 bA, .bool gA, .string nA, .slice taA tlA tcA, .slice kaA klA kcA] 37) := A4.out.on b5
            have N5 : Hid (Bk z5 (w.heap.size + 1) #[.int .i64 kB, .int .i64 mB, .int .i64 aB, .int .i64 bB, .bool gB, .string nB, .slice taB tlB tcB, .slice kaB klB kcB] 37) := N4.out.on b5
            have O5 : Hid (Bk z5 (w.heap.size + 1 + 1) #[.bool c, .bool d, .bool mu, .int .i64 fo] 24) := O4.out.on b5
            have U5 : Hid (prp.Tabs z5 tb) := TT4.out.below b5
            clear b5 X4 Y4 HR A4 N4 O4 TT4 B4
            clear h5 s5
            generalize q5.length = qn at *
            have C := rng.rminus_s (.slice xa xn xc) (.slice ya yn yc) r5 r7 z5 X5.out Y5.out (by omega) (by omega)
            go_wp2_with fail
            refine C.mono ?_
            rintro e z6 ⟨v6, q6, rfl, s6, h6, b6⟩
            clear C
            obtain ⟨qa6, qc6, hv6⟩ := rng_sl s6
            subst hv6
            have B6 : Hid (Below w.heap.size w z6) := B5.out.trans (b6.mono B5.out.size)
            have X6 : Hid (Sl z6 (.slice xa xn xc) r5) := X5.out.below b6
            have Y6 : Hid (Sl z6 (.slice ya yn yc) r7) := Y5.out.below b6
            have Z6 : Hid (Sl z6 (.slice zsa zn zsc) r4) := Z5.out.below b6
            have A6 : Hid (Bk z6 w.heap.size #[.int .i64 kA, .int .i64 mA, .int .i64 aA, .int .i64 bA, .bool gA, .string nA, .slice taA tlA tcA, .slice kaA klA kcA] 37) := A5.out.on b6
            have N6 : Hid (Bk z6 (w.heap.size + 1) #[.int .i64 kB, .int .i64 mB, .int .i64 aB, .int .i64 bB, .bool gB, .string nB, .slice taB tlB tcB, .slice kaB klB kcB] 37) := N5.out.on b6
            have O6 : Hid (Bk z6 (w.heap.size + 1 + 1) #[.bool c, .bool d, .bool mu, .int .i64 fo] 24) := O5.out.on b6
            have U6 : Hid (prp.Tabs z6 tb) := U5.out.below b6
            clear b6 X5 Y5 Z5 A5 N5 O5 U5 B5
            have HQ : Hid (r4 = q6) := sides_fit P5.out P7.out P4.out (fun a b => a && !b) h6 (fun P Q a b h1 h2 => by rw [show combP 2 [fun _ => P, fun _ => Q] 0 = (P ∧ ¬ Q) from rfl, ← h1, ← h2]; cases a <;> cases b <;> simp)
            have C := rng.equal_s (.slice zsa zn zsc) (.slice qa6 q6.length qc6) r4 q6 z6 Z6.out s6 (by omega) HQ.out
            clear h6 s6
            generalize q6.length = qn6 at *
            go_wp2_with fail
            refine C.mono ?_
            rintro e z8 ⟨rfl, b8⟩
            clear C
            have B8 : Hid (Below w.heap.size w z8) := B6.out.trans (b8.mono B6.out.size)
            have X8 : Hid (Sl z8 (.slice xa xn xc) r5) := X6.out.below b8
            have Y8 : Hid (Sl z8 (.slice ya yn yc) r7) := Y6.out.below b8
            have A8 : Hid (Bk z8 w.heap.size #[.int .i64 kA, .int .i64 mA, .int .i64 aA, .int .i64 bA, .bool gA, .string nA, .slice taA tlA tcA, .slice kaA klA kcA] 37) := A6.out.on b8
            have N8 : Hid (Bk z8 (w.heap.size + 1) #[.int .i64 kB, .int .i64 mB, .int .i64 aB, .int .i64 bB, .bool gB, .string nB, .slice taB tlB tcB, .slice kaB klB kcB] 37) := N6.out.on b8
            have O8 : Hid (Bk z8 (w.heap.size + 1 + 1) #[.bool c, .bool d, .bool mu, .int .i64 fo] 24) := O6.out.on b8
            have U8 : Hid (prp.Tabs z8 tb) := U6.out.below b8
            clear b8 X6 Y6 Z6 A6 N6 O6 U6 B6 P4 P5 P7 HQ
            go_wp2
            go_roundw
            case rel => exact ⟨3, by decide, by decide, by first | rfl | go_num, B8, A8, N8, O8, U8, X8, Y8⟩
            case measure => simp [RowKit.intOf]
          · skip
            have C := rng.rmeet_s (.slice xa xn xc) (.slice ya yn yc) r5 r7 z4 X4.out Y4.out (by omega) (by omega)
            go_wp2_with fail
            refine C.mono ?_
            rintro e z5 ⟨v5, q5, rfl, s5, h5, b5⟩
            clear C
            obtain ⟨qa, qc, hv5⟩ := rng_sl s5
            subst hv5
            have B5 : Hid (Below w.heap.size w z5) := B4.out.trans (b5.mono B4.out.size)
            have X5 : Hid (Sl z5 (.slice xa xn xc) r5) := X4.out.below b5
            have Y5 : Hid (Sl z5 (.slice ya yn yc) r7) := Y4.out.below b5
            have Z5 : Hid (Sl z5 (.slice zsa zn zsc) r4) := HR.out.below b5
            have A5 : Hid (Bk z5 w.heap.size #[.int .i64 kA, .int .i64 mA, .int .i64 aA, .int .i64 bA, .bool gA, .string nA, .slice taA tlA tcA, .slice kaA klA kcA] 37) := A4.out.on b5
            have N5 : Hid (Bk z5 (w.heap.size + 1) #[.int .i64 kB, .int .i64 mB, .int .i64 aB, .int .i64 bB, .bool gB, .string nB, .slice taB tlB tcB, .slice kaB klB kcB] 37) := N4.out.on b5
            have O5 : Hid (Bk z5 (w.heap.size + 1 + 1) #[.bool c, .bool d, .bool mu, .int .i64 fo] 24) := O4.out.on b5
            have U5 : Hid (prp.Tabs z5 tb) := TT4.out.below b5
            clear b5 X4 Y4 HR A4 N4 O4 TT4 B4
            clear h5 s5
            generalize q5.length = qn at *
            have C := rng.rxor_s (.slice xa xn xc) (.slice ya yn yc) r5 r7 z5 X5.out Y5.out (by omega) (by omega)
            go_wp2_with fail
            refine C.mono ?_
            rintro e z6 ⟨v6, q6, rfl, s6, h6, b6⟩
            clear C
            obtain ⟨qa6, qc6, hv6⟩ := rng_sl s6
            subst hv6
            have B6 : Hid (Below w.heap.size w z6) := B5.out.trans (b6.mono B5.out.size)
            have X6 : Hid (Sl z6 (.slice xa xn xc) r5) := X5.out.below b6
            have Y6 : Hid (Sl z6 (.slice ya yn yc) r7) := Y5.out.below b6
            have Z6 : Hid (Sl z6 (.slice zsa zn zsc) r4) := Z5.out.below b6
            have A6 : Hid (Bk z6 w.heap.size #[.int .i64 kA, .int .i64 mA, .int .i64 aA, .int .i64 bA, .bool gA, .string nA, .slice taA tlA tcA, .slice kaA klA kcA] 37) := A5.out.on b6
            have N6 : Hid (Bk z6 (w.heap.size + 1) #[.int .i64 kB, .int .i64 mB, .int .i64 aB, .int .i64 bB, .bool gB, .string nB, .slice taB tlB tcB, .slice kaB klB kcB] 37) := N5.out.on b6
            have O6 : Hid (Bk z6 (w.heap.size + 1 + 1) #[.bool c, .bool d, .bool mu, .int .i64 fo] 24) := O5.out.on b6
            have U6 : Hid (prp.Tabs z6 tb) := U5.out.below b6
            clear b6 X5 Y5 Z5 A5 N5 O5 U5 B5
            have HQ : Hid (r4 = q6) := sides_fit P5.out P7.out P4.out (fun a b => a != b) h6 (fun P Q a b h1 h2 => by rw [show combP 3 [fun _ => P, fun _ => Q] 0 = (¬ (P ↔ Q)) from rfl, ← h1, ← h2]; cases a <;> cases b <;> simp)
            have C := rng.equal_s (.slice zsa zn zsc) (.slice qa6 q6.length qc6) r4 q6 z6 Z6.out s6 (by omega) HQ.out
            clear h6 s6
            generalize q6.length = qn6 at *
            go_wp2_with fail
            refine C.mono ?_
            rintro e z8 ⟨rfl, b8⟩
            clear C
            have B8 : Hid (Below w.heap.size w z8) := B6.out.trans (b8.mono B6.out.size)
            have X8 : Hid (Sl z8 (.slice xa xn xc) r5) := X6.out.below b8
            have Y8 : Hid (Sl z8 (.slice ya yn yc) r7) := Y6.out.below b8
            have A8 : Hid (Bk z8 w.heap.size #[.int .i64 kA, .int .i64 mA, .int .i64 aA, .int .i64 bA, .bool gA, .string nA, .slice taA tlA tcA, .slice kaA klA kcA] 37) := A6.out.on b8
            have N8 : Hid (Bk z8 (w.heap.size + 1) #[.int .i64 kB, .int .i64 mB, .int .i64 aB, .int .i64 bB, .bool gB, .string nB, .slice taB tlB tcB, .slice kaB klB kcB] 37) := N6.out.on b8
            have O8 : Hid (Bk z8 (w.heap.size + 1 + 1) #[.bool c, .bool d, .bool mu, .int .i64 fo] 24) := O6.out.on b8
            have U8 : Hid (prp.Tabs z8 tb) := U6.out.below b8
            clear b8 X6 Y6 Z6 A6 N6 O6 U6 B6 P4 P5 P7 HQ
            go_wp2
            go_roundw
            case rel => exact ⟨4, by decide, by decide, by first | rfl | go_num, B8, A8, N8, O8, U8, X8, Y8⟩
            case measure => simp [RowKit.intOf]
        · have h3 : ¬ er3 = 0 := fun h => h2 (H3.out.1 h).2
          have hz := HJ.out h3
          obtain rfl : zn = 0 := by rw [← HZN.out, hz]; rfl
          have f3 : (er3 == 0) = false := by rw [beq_eq_false_iff_ne]; exact h3
          have f4 : (er3 != 0) = true := by simpa using h3
          have g1 : (er2 != 0) = true := by simpa using h2
          have g2 : (er2 == 0) = false := by rw [beq_eq_false_iff_ne]; exact h2
          subst h1
          have wm : IntKind.i64.wrap (md + 1) = md + 1 := by rw [IntKind.wrap_i64]; omega
          clear h3 hz HJ HI H3 HZN HR
          go_wp2
          go_roundw
          case rel => exact ⟨md + 1, by omega, by omega, by first | rfl | go_num, B4, A4, N4, O4, TT4, X4, Y4⟩
          case measure => simp [RowKit.intOf]; omega

      · have h3 : ¬ er3 = 0 := fun h => h1 (H3.out.1 h).1
        have hz := HJ.out h3
        obtain rfl : zn = 0 := by rw [← HZN.out, hz]; rfl
        have f3 : (er3 == 0) = false := by rw [beq_eq_false_iff_ne]; exact h3
        have f4 : (er3 != 0) = true := by simpa using h3
        have g1 : (er1 != 0) = true := by simpa using h1
        have g2 : (er1 == 0) = false := by rw [beq_eq_false_iff_ne]; exact h1
        have wm : IntKind.i64.wrap (md + 1) = md + 1 := by rw [IntKind.wrap_i64]; omega
        clear h3 hz HJ HI H3 HZN HR
        go_wp2
        go_roundw
        case rel => exact ⟨md + 1, by omega, by omega, by first | rfl | go_num, B4, A4, N4, O4, TT4, X4, Y4⟩
        case measure => simp [RowKit.intOf]; omega

    · obtain rfl : md = 4 := by omega
      have C := awake_any wr (HE.out.below HB.out)
      go_wp2_with fail
      refine C.mono ?_
      rintro e w9 ⟨rfl, b9⟩
      clear C
      go_wp2
      go_ret
      exact ⟨rfl, HB.out.trans (b9.mono HB.out.size)⟩
end Go.Proofs.YtpcnbamlmfmmpaaGreatDoor.cls
end
