/- Texts that the proof leans on, one behind the other. -/
import Derived.Test.YtpcnbamlmfmmpaaGreatDoorBdCls5
import Derived.Deep.RegionHeld3
import Derived.Deep.RegionWith

section
/- The walk of ClassNot. -/
set_option linter.unusedVariables false
set_option linter.unusedSimpArgs false
namespace Go.Proofs.YtpcnbamlmfmmpaaGreatDoor.cls
open Go.RowKit
open Go.Proofs.YtpcnbamlmfmmpaaGreatDoor.rng (R has IsSet Sl code CanF RV)
open Go.Proofs.YtpcnbamlmfmmpaaGreatDoor.dcp (sinL fullL)
open Go.Proofs.YtpcnbamlmfmmpaaGreatDoor.fld (sim kL)
open Go.Proofs.YtpcnbamlmfmmpaaGreatDoor.nod

/-- A class of one kid, that lies in a row of its own. -/
theorem nv_class {w W : World} {t : Nd} {kb : Nat} {k0 k1 k2 k3 k4 k5 k6 k7 : Value} {T : TypeId} (g : Bool) (m : Int) (hm : I64 m) (hv : NV w.heap.size w t (.agg #[k0, k1, k2, k3, k4, k5, k6, k7])) (hb : Below w.heap.size w W) (hk : Bk W kb #[k0, k1, k2, k3, k4, k5, k6, k7] T) : NV W.heap.size W (.mk 3 m 0 0 g ⟨#[]⟩ [] [t]) (.agg #[.int .i64 3, .int .i64 m, .int .i64 0, .int .i64 0, .bool g, .string ⟨#[]⟩, .slice none 0 0, .slice (some ⟨kb, 0, none⟩) 1 1]) := by
  refine NV.shut (s := []) (ks := [t]) ⟨i64s (by decide) (by decide), hm, i64s (by decide) (by decide), i64s (by decide) (by decide)⟩ (by decide) ⟨.inl rfl, fun x e => (by cases e), by simp, by simp, fun _ => rfl⟩ ⟨by simp, by unfold maxLen; simp, fun e => (by cases e)⟩ (.inr ⟨kb, 0, rfl, hk.lt, fun i t' hi => ?_⟩)
  match i, hi with
  | 0, hi =>
    simp at hi; subst hi
    exact ⟨_, ⟨k0, k1, k2, k3, k4, k5, k6, k7, rfl, hk.cell 0 rfl, hk.cell 1 rfl, hk.cell 2 rfl, hk.cell 3 rfl, hk.cell 4 rfl, hk.cell 5 rfl, hk.cell 6 rfl, hk.cell 7 rfl⟩, (hv.keep hb).wide hb.size⟩
  | k + 1, hi => simp at hi
theorem Bk.set8 {W : World} {k : Nat} {a0 a1 a2 a3 a4 a5 a6 a7 : Value} {t : TypeId} (h : Bk W k #[a0, a1, a2, a3, a4, a5, a6, a7] t) (x0 x1 x2 x3 x4 x5 x6 x7 : Value) : Bk ((((((((W.setCell ⟨k, 0, none⟩ x0).setCell ⟨k, 1, none⟩ x1).setCell ⟨k, 2, none⟩ x2).setCell ⟨k, 3, none⟩ x3).setCell ⟨k, 4, none⟩ x4).setCell ⟨k, 5, none⟩ x5).setCell ⟨k, 6, none⟩ x6).setCell ⟨k, 7, none⟩ x7) k #[x0, x1, x2, x3, x4, x5, x6, x7] t := by
  have := (((((((h.set 0 x0).set 1 x1).set 2 x2).set 3 x3).set 4 x4).set 5 x5).set 6 x6).set 7 x7
  simpa using this
theorem Bk.apart8 {W : World} {g k : Nat} {cs : Array Value} {t : TypeId} (h : Bk W g cs t) (hk : g ≠ k) (x0 x1 x2 x3 x4 x5 x6 x7 : Value) : Bk ((((((((W.setCell ⟨k, 0, none⟩ x0).setCell ⟨k, 1, none⟩ x1).setCell ⟨k, 2, none⟩ x2).setCell ⟨k, 3, none⟩ x3).setCell ⟨k, 4, none⟩ x4).setCell ⟨k, 5, none⟩ x5).setCell ⟨k, 6, none⟩ x6).setCell ⟨k, 7, none⟩ x7) g cs t := (((((((h.apart hk x0).apart hk x1).apart hk x2).apart hk x3).apart hk x4).apart hk x5).apart hk x6).apart hk x7
theorem below_set8 {B : Nat} {w W : World} {k : Nat} (hb : Below B w W) (hg : B ≤ k) (x0 x1 x2 x3 x4 x5 x6 x7 : Value) : Below B w ((((((((W.setCell ⟨k, 0, none⟩ x0).setCell ⟨k, 1, none⟩ x1).setCell ⟨k, 2, none⟩ x2).setCell ⟨k, 3, none⟩ x3).setCell ⟨k, 4, none⟩ x4).setCell ⟨k, 5, none⟩ x5).setCell ⟨k, 6, none⟩ x6).setCell ⟨k, 7, none⟩ x7) :=
  (((((((hb.setCell (p := ⟨k, 0, none⟩) hg x0).setCell (p := ⟨k, 1, none⟩) hg x1).setCell (p := ⟨k, 2, none⟩) hg x2).setCell (p := ⟨k, 3, none⟩) hg x3).setCell (p := ⟨k, 4, none⟩) hg x4).setCell (p := ⟨k, 5, none⟩) hg x5).setCell (p := ⟨k, 6, none⟩) hg x6).setCell (p := ⟨k, 7, none⟩) hg x7
theorem size_set8 {W : World} {k : Nat} {x0 x1 x2 x3 x4 x5 x6 x7 : Value} : ((((((((W.setCell ⟨k, 0, none⟩ x0).setCell ⟨k, 1, none⟩ x1).setCell ⟨k, 2, none⟩ x2).setCell ⟨k, 3, none⟩ x3).setCell ⟨k, 4, none⟩ x4).setCell ⟨k, 5, none⟩ x5).setCell ⟨k, 6, none⟩ x6).setCell ⟨k, 7, none⟩ x7).heap.size = W.heap.size := by simp [World.setCell]
theorem frozen8 {W : World} {h : Nat} {T : TypeId} {cs : Array Value} (BN : Bk W h cs T) : W.frozen? ⟨h, 0, none⟩ = false ∧ W.frozen? ⟨h, 1, none⟩ = false ∧ W.frozen? ⟨h, 2, none⟩ = false ∧ W.frozen? ⟨h, 3, none⟩ = false ∧ W.frozen? ⟨h, 4, none⟩ = false ∧ W.frozen? ⟨h, 5, none⟩ = false ∧ W.frozen? ⟨h, 6, none⟩ = false ∧ W.frozen? ⟨h, 7, none⟩ = false :=
  ⟨BN.frozen 0, BN.frozen 1, BN.frozen 2, BN.frozen 3, BN.frozen 4, BN.frozen 5, BN.frozen 6, BN.frozen 7⟩
theorem class_sz {t : Nd} {k m a b : Int} {g : Bool} {n : ByteArray} {N : Nat} (h : t.sz ≤ N) : (Nd.mk k m a b g n [] [t]).sz ≤ N + 1 := by
  rw [Nd.sz, szL, szL]; omega
theorem class_short {t : Nd} {k m a b : Int} {g : Bool} (h : shortN t) : shortN (.mk k m a b g ⟨#[]⟩ [] [t]) := by
  rw [shortN, shortL, shortL]; exact ⟨by decide, h, trivial⟩
theorem not_err (fo : Int) (N : Nat) (t : Nd) : errS fo N (.mk 3 0 0 0 true ⟨#[]⟩ [] [t]) = errS fo N (.mk 3 0 0 0 false ⟨#[]⟩ [] [t]) := by
  cases N <;> rfl
theorem not_fit {c : Bool} {fo : Int} {d : Bool} {N : Nat} {t : Nd} {r s : List R} (hr : IsP r (fitN c fo d (N + 1) (.mk 3 0 0 0 false ⟨#[]⟩ [] [t]))) (hs : IsP s (fitN c fo d (N + 1) (.mk 3 0 0 0 true ⟨#[]⟩ [] [t]))) {q : List R} (hq : IsSet q (fun x => !has r x)) : q = s := by
  have h1 : IsP q (negP true (fitN c fo d (N + 1) (.mk 3 0 0 0 false ⟨#[]⟩ [] [t]))) := neg_set hr hq
  refine h1.eq hs (fun x _ => ?_)
  show (negP true (negP false (combP 0 [fitN c fo d N t])) x) ↔ negP true (combP 0 [fitN c fo d N t]) x
  unfold negP
  simp
set_option maxHeartbeats 4000000 in
set_option maxRecDepth 1000000 in
theorem not_walk (v : Value) (t : Nd) (c d mu : Bool) (fo : Int) (w : World) (hv : NV w.heap.size w t v) (hs : shortN t) (E : prp.Env w) :
    Calls Tryz.prog 4 #[v, .agg #[.bool c, .bool d, .bool mu, .int .i64 fo]] w fun e w' => e = .returned (.bool true) ∧ Below w.heap.size w w' := by
  have HV : Hid (NV w.heap.size w t v) := hv
  obtain ⟨k, m, a, b, g, n, s, ks, ta, tc, ka, kc, ht, rfl, _⟩ := hv.open
  clear hv ht
  generalize s.length = tl at *
  generalize ks.length = kl at *
  have HE : Hid (prp.Env w) := E
  have HSH : Hid (shortN t) := hs
  have HBB : Hid (Below w.heap.size w ((w.alloc (.cells #[.int .i64 k, .int .i64 m, .int .i64 a, .int .i64 b, .bool g, .string n, .slice ta tl tc, .slice ka kl kc] 37)).alloc (.cells #[.bool c, .bool d, .bool mu, .int .i64 fo] 24))) := ((Below.refl _ w).alloc (Nat.le_refl _) _).alloc (by simp) _
  have HBN : Hid (Bk ((w.alloc (.cells #[.int .i64 k, .int .i64 m, .int .i64 a, .int .i64 b, .bool g, .string n, .slice ta tl tc, .slice ka kl kc] 37)).alloc (.cells #[.bool c, .bool d, .bool mu, .int .i64 fo] 24)) w.heap.size #[.int .i64 k, .int .i64 m, .int .i64 a, .int .i64 b, .bool g, .string n, .slice ta tl tc, .slice ka kl kc] 37) := (Bk.new w _ _).past _
  have HBO : Hid (Bk ((w.alloc (.cells #[.int .i64 k, .int .i64 m, .int .i64 a, .int .i64 b, .bool g, .string n, .slice ta tl tc, .slice ka kl kc] 37)).alloc (.cells #[.bool c, .bool d, .bool mu, .int .i64 fo] 24)) (w.heap.size + 1) #[.bool c, .bool d, .bool mu, .int .i64 fo] 24) := bk2
  have C := deep_any t _ 200 60 ((w.alloc (.cells #[.int .i64 k, .int .i64 m, .int .i64 a, .int .i64 b, .bool g, .string n, .slice ta tl tc, .slice ka kl kc] 37)).alloc (.cells #[.bool c, .bool d, .bool mu, .int .i64 fo] 24)) ((HV.out.keep HBB.out).wide HBB.out.size) (by decide) (by decide) (by decide) (by decide)
  clear E hs
  obtain ⟨dp, hdp⟩ : ∃ x, (fewN t 200 60).2 = x := ⟨_, rfl⟩
  rw [hdp] at C
  go_enter Tryz.func4, Tryz.ntmps4
  go_wp2_with fail
  refine C.mono ?_
  rintro e w1 ⟨rfl, b1⟩
  clear C
  have HB1 : Hid (Below w.heap.size w w1) := HBB.out.trans (b1.mono HBB.out.size)
  have HBN1 : Hid (Bk w1 w.heap.size #[.int .i64 k, .int .i64 m, .int .i64 a, .int .i64 b, .bool g, .string n, .slice ta tl tc, .slice ka kl kc] 37) := HBN.out.on b1
  have HBO1 : Hid (Bk w1 (w.heap.size + 1) #[.bool c, .bool d, .bool mu, .int .i64 fo] 24) := HBO.out.on b1
  clear b1 HBB HBN HBO
  cases dp with
  | false =>
    have C := awake_any w1 (HE.out.below HB1.out)
    clear hdp
    go_wp2_with fail
    refine C.mono ?_
    rintro e w2 ⟨rfl, b2⟩
    clear C
    go_wp2
    go_ret
    exact ⟨rfl, HB1.out.trans (b2.mono HB1.out.size)⟩
  | true =>
    have hsz := deep_facts hdp
    have HSZ : Hid (t.sz ≤ 200) := by show _ ≤ _; omega
    clear hdp hsz
    obtain ⟨n0, n1, n2, n3, n4, n5, n6, n7⟩ := cells8 (HBN1.out.past (.cells #[.int .i64 k, .int .i64 m, .int .i64 a, .int .i64 b, .bool g, .string n, .slice ta tl tc, .slice ka kl kc] 37))
    have m0 := cells8 HBN1.out
    obtain ⟨z0, z1, z2, z3, z4, z5, z6, z7⟩ := frozen8 (HBN1.out.past (.cells #[.int .i64 k, .int .i64 m, .int .i64 a, .int .i64 b, .bool g, .string n, .slice ta tl tc, .slice ka kl kc] 37))
    obtain ⟨x0, x1, x2, x3, x4, x5, x6, x7⟩ := m0
    go_wp2
    have HB2a : Below w.heap.size w (w1.alloc (.cells #[.int .i64 k, .int .i64 m, .int .i64 a, .int .i64 b, .bool g, .string n, .slice ta tl tc, .slice ka kl kc] 37)) := HB1.out.alloc HB1.out.size _
    have HB2 : Hid (Below w.heap.size w ((((((((((w1.alloc (.cells #[.int .i64 k, .int .i64 m, .int .i64 a, .int .i64 b, .bool g, .string n, .slice ta tl tc, .slice ka kl kc] 37)).setCell ⟨w.heap.size, 0, none⟩ (.int .i64 3)).setCell ⟨w.heap.size, 1, none⟩ (.int .i64 0)).setCell ⟨w.heap.size, 2, none⟩ (.int .i64 0)).setCell ⟨w.heap.size, 3, none⟩ (.int .i64 0)).setCell ⟨w.heap.size, 4, none⟩ (.bool false)).setCell ⟨w.heap.size, 5, none⟩ (.string ⟨#[]⟩)).setCell ⟨w.heap.size, 6, none⟩ (.slice none 0 0)).setCell ⟨w.heap.size, 7, none⟩ (.slice (some ⟨w1.heap.size, 0, none⟩) 1 1)).alloc (.cells #[.int .i64 3, .int .i64 0, .int .i64 0, .int .i64 0, .bool true, .string ⟨#[]⟩, .slice none 0 0, .slice (some ⟨w1.heap.size, 0, none⟩) 1 1] 37))) := (below_set8 HB2a (Nat.le_refl _) _ _ _ _ _ _ _ _).alloc (by have := HB1.out.size; simp [World.setCell]; omega) _
    have HC2 : Hid (Bk ((((((((((w1.alloc (.cells #[.int .i64 k, .int .i64 m, .int .i64 a, .int .i64 b, .bool g, .string n, .slice ta tl tc, .slice ka kl kc] 37)).setCell ⟨w.heap.size, 0, none⟩ (.int .i64 3)).setCell ⟨w.heap.size, 1, none⟩ (.int .i64 0)).setCell ⟨w.heap.size, 2, none⟩ (.int .i64 0)).setCell ⟨w.heap.size, 3, none⟩ (.int .i64 0)).setCell ⟨w.heap.size, 4, none⟩ (.bool false)).setCell ⟨w.heap.size, 5, none⟩ (.string ⟨#[]⟩)).setCell ⟨w.heap.size, 6, none⟩ (.slice none 0 0)).setCell ⟨w.heap.size, 7, none⟩ (.slice (some ⟨w1.heap.size, 0, none⟩) 1 1)).alloc (.cells #[.int .i64 3, .int .i64 0, .int .i64 0, .int .i64 0, .bool true, .string ⟨#[]⟩, .slice none 0 0, .slice (some ⟨w1.heap.size, 0, none⟩) 1 1] 37)) w.heap.size #[.int .i64 3, .int .i64 0, .int .i64 0, .int .i64 0, .bool false, .string ⟨#[]⟩, .slice none 0 0, .slice (some ⟨w1.heap.size, 0, none⟩) 1 1] 37) := (Bk.set8 (HBN1.out.past _) _ _ _ _ _ _ _ _).past _
    have HO2 : Hid (Bk ((((((((((w1.alloc (.cells #[.int .i64 k, .int .i64 m, .int .i64 a, .int .i64 b, .bool g, .string n, .slice ta tl tc, .slice ka kl kc] 37)).setCell ⟨w.heap.size, 0, none⟩ (.int .i64 3)).setCell ⟨w.heap.size, 1, none⟩ (.int .i64 0)).setCell ⟨w.heap.size, 2, none⟩ (.int .i64 0)).setCell ⟨w.heap.size, 3, none⟩ (.int .i64 0)).setCell ⟨w.heap.size, 4, none⟩ (.bool false)).setCell ⟨w.heap.size, 5, none⟩ (.string ⟨#[]⟩)).setCell ⟨w.heap.size, 6, none⟩ (.slice none 0 0)).setCell ⟨w.heap.size, 7, none⟩ (.slice (some ⟨w1.heap.size, 0, none⟩) 1 1)).alloc (.cells #[.int .i64 3, .int .i64 0, .int .i64 0, .int .i64 0, .bool true, .string ⟨#[]⟩, .slice none 0 0, .slice (some ⟨w1.heap.size, 0, none⟩) 1 1] 37)) (w.heap.size + 1) #[.bool c, .bool d, .bool mu, .int .i64 fo] 24) := (Bk.apart8 (HBO1.out.past _) (by omega) _ _ _ _ _ _ _ _).past _
    have HK2 : Hid (Bk ((((((((((w1.alloc (.cells #[.int .i64 k, .int .i64 m, .int .i64 a, .int .i64 b, .bool g, .string n, .slice ta tl tc, .slice ka kl kc] 37)).setCell ⟨w.heap.size, 0, none⟩ (.int .i64 3)).setCell ⟨w.heap.size, 1, none⟩ (.int .i64 0)).setCell ⟨w.heap.size, 2, none⟩ (.int .i64 0)).setCell ⟨w.heap.size, 3, none⟩ (.int .i64 0)).setCell ⟨w.heap.size, 4, none⟩ (.bool false)).setCell ⟨w.heap.size, 5, none⟩ (.string ⟨#[]⟩)).setCell ⟨w.heap.size, 6, none⟩ (.slice none 0 0)).setCell ⟨w.heap.size, 7, none⟩ (.slice (some ⟨w1.heap.size, 0, none⟩) 1 1)).alloc (.cells #[.int .i64 3, .int .i64 0, .int .i64 0, .int .i64 0, .bool true, .string ⟨#[]⟩, .slice none 0 0, .slice (some ⟨w1.heap.size, 0, none⟩) 1 1] 37)) w1.heap.size #[.int .i64 k, .int .i64 m, .int .i64 a, .int .i64 b, .bool g, .string n, .slice ta tl tc, .slice ka kl kc] 37) := (Bk.apart8 (Bk.new w1 _ _) (by have := HBN1.out.lt; omega) _ _ _ _ _ _ _ _).past _
    have HM2 : Hid (Bk ((((((((((w1.alloc (.cells #[.int .i64 k, .int .i64 m, .int .i64 a, .int .i64 b, .bool g, .string n, .slice ta tl tc, .slice ka kl kc] 37)).setCell ⟨w.heap.size, 0, none⟩ (.int .i64 3)).setCell ⟨w.heap.size, 1, none⟩ (.int .i64 0)).setCell ⟨w.heap.size, 2, none⟩ (.int .i64 0)).setCell ⟨w.heap.size, 3, none⟩ (.int .i64 0)).setCell ⟨w.heap.size, 4, none⟩ (.bool false)).setCell ⟨w.heap.size, 5, none⟩ (.string ⟨#[]⟩)).setCell ⟨w.heap.size, 6, none⟩ (.slice none 0 0)).setCell ⟨w.heap.size, 7, none⟩ (.slice (some ⟨w1.heap.size, 0, none⟩) 1 1)).alloc (.cells #[.int .i64 3, .int .i64 0, .int .i64 0, .int .i64 0, .bool true, .string ⟨#[]⟩, .slice none 0 0, .slice (some ⟨w1.heap.size, 0, none⟩) 1 1] 37)) (w1.heap.size + 1) #[.int .i64 3, .int .i64 0, .int .i64 0, .int .i64 0, .bool true, .string ⟨#[]⟩, .slice none 0 0, .slice (some ⟨w1.heap.size, 0, none⟩) 1 1] 37) := by
      have := Bk.new (((((((((w1.alloc (.cells #[.int .i64 k, .int .i64 m, .int .i64 a, .int .i64 b, .bool g, .string n, .slice ta tl tc, .slice ka kl kc] 37)).setCell ⟨w.heap.size, 0, none⟩ (.int .i64 3)).setCell ⟨w.heap.size, 1, none⟩ (.int .i64 0)).setCell ⟨w.heap.size, 2, none⟩ (.int .i64 0)).setCell ⟨w.heap.size, 3, none⟩ (.int .i64 0)).setCell ⟨w.heap.size, 4, none⟩ (.bool false)).setCell ⟨w.heap.size, 5, none⟩ (.string ⟨#[]⟩)).setCell ⟨w.heap.size, 6, none⟩ (.slice none 0 0)).setCell ⟨w.heap.size, 7, none⟩ (.slice (some ⟨w1.heap.size, 0, none⟩) 1 1)) #[.int .i64 3, .int .i64 0, .int .i64 0, .int .i64 0, .bool true, .string ⟨#[]⟩, .slice none 0 0, .slice (some ⟨w1.heap.size, 0, none⟩) 1 1] 37
      rw [size_set8, World.size_alloc] at this
      exact this
    generalize (((((((((w1.alloc (.cells #[.int .i64 k, .int .i64 m, .int .i64 a, .int .i64 b, .bool g, .string n, .slice ta tl tc, .slice ka kl kc] 37)).setCell ⟨w.heap.size, 0, none⟩ (.int .i64 3)).setCell ⟨w.heap.size, 1, none⟩ (.int .i64 0)).setCell ⟨w.heap.size, 2, none⟩ (.int .i64 0)).setCell ⟨w.heap.size, 3, none⟩ (.int .i64 0)).setCell ⟨w.heap.size, 4, none⟩ (.bool false)).setCell ⟨w.heap.size, 5, none⟩ (.string ⟨#[]⟩)).setCell ⟨w.heap.size, 6, none⟩ (.slice none 0 0)).setCell ⟨w.heap.size, 7, none⟩ (.slice (some ⟨w1.heap.size, 0, none⟩) 1 1)).alloc (.cells #[.int .i64 3, .int .i64 0, .int .i64 0, .int .i64 0, .bool true, .string ⟨#[]⟩, .slice none 0 0, .slice (some ⟨w1.heap.size, 0, none⟩) 1 1] 37) = V2 at *
    clear HB2a n0 n1 n2 n3 n4 n5 n6 n7 z0 z1 z2 z3 z4 z5 z6 z7 x0 x1 x2 x3 x4 x5 x6 x7 HBN1 HBO1 HB1
    generalize w1.heap.size = kb at *
    obtain ⟨er, her⟩ : ∃ x, errS fo 201 (.mk 3 0 0 0 false ⟨#[]⟩ [] [t]) = x := ⟨_, rfl⟩
    have HSET : Hid (∀ W tb, Below w.heap.size w W → Bk W kb #[.int .i64 k, .int .i64 m, .int .i64 a, .int .i64 b, .bool g, .string n, .slice ta tl tc, .slice ka kl kc] 37 → prp.Tabs W tb → Calls Tryz.prog 14 #[.pointer (some ⟨tb, 0, none⟩), .agg #[.int .i64 3, .int .i64 0, .int .i64 0, .int .i64 0, .bool false, .string ⟨#[]⟩, .slice none 0 0, .slice (some ⟨kb, 0, none⟩) 1 1], .agg #[.bool c, .bool d, .bool mu, .int .i64 fo]] W fun e w' => Ans W w' e er (fitN c fo d 201 (.mk 3 0 0 0 false ⟨#[]⟩ [] [t]))) := fun W tb hb hk hT => by
      rw [← her]
      exact Set_any 201 (by decide) _ _ _ W tb c d mu fo (class_sz HSZ.out) (class_short HSH.out) (nv_class false 0 (i64s (by decide) (by decide)) HV.out hb hk) (Nat.le_refl _) hT (HE.out.below hb)
    have HSETM : Hid (∀ W tb, Below w.heap.size w W → Bk W kb #[.int .i64 k, .int .i64 m, .int .i64 a, .int .i64 b, .bool g, .string n, .slice ta tl tc, .slice ka kl kc] 37 → prp.Tabs W tb → Calls Tryz.prog 14 #[.pointer (some ⟨tb, 0, none⟩), .agg #[.int .i64 3, .int .i64 0, .int .i64 0, .int .i64 0, .bool true, .string ⟨#[]⟩, .slice none 0 0, .slice (some ⟨kb, 0, none⟩) 1 1], .agg #[.bool c, .bool d, .bool mu, .int .i64 fo]] W fun e w' => Ans W w' e er (fitN c fo d 201 (.mk 3 0 0 0 true ⟨#[]⟩ [] [t]))) := fun W tb hb hk hT => by
      rw [← her, ← not_err]
      exact Set_any 201 (by decide) _ _ _ W tb c d mu fo (class_sz HSZ.out) (class_short HSH.out) (nv_class true 0 (i64s (by decide) (by decide)) HV.out hb hk) (Nat.le_refl _) hT (HE.out.below hb)
    clear her HSZ HSH HV
    have HBV2 : Hid (Below w.heap.size w V2) := HB2
    have HKV2 : Hid (Bk V2 kb _ _) := HK2
    have HCV2 : Hid (Bk V2 w.heap.size _ _) := HC2
    have HMV2 : Hid (Bk V2 (kb + 1) _ _) := HM2
    have HOV2 : Hid (Bk V2 (w.heap.size + 1) _ _) := HO2
    clear HB2 HK2 HC2 HM2 HO2
    have y1 := cells8 HCV2.out
    have y2 := cells4 HOV2.out
    go_region_held3 (fun w' => w'.cell? ⟨w.heap.size, 0, none⟩ = some (.int .i64 3) ∧ w'.cell? ⟨w.heap.size, 1, none⟩ = some (.int .i64 0) ∧ w'.cell? ⟨w.heap.size, 2, none⟩ = some (.int .i64 0) ∧ w'.cell? ⟨w.heap.size, 3, none⟩ = some (.int .i64 0) ∧ w'.cell? ⟨w.heap.size, 4, none⟩ = some (.bool false) ∧ w'.cell? ⟨w.heap.size, 5, none⟩ = some (.string ⟨#[]⟩) ∧ w'.cell? ⟨w.heap.size, 6, none⟩ = some (.slice none 0 0) ∧ w'.cell? ⟨w.heap.size, 7, none⟩ = some (.slice (some ⟨kb, 0, none⟩) 1 1) ∧ w'.cell? ⟨w.heap.size + 1, 0, none⟩ = some (.bool c) ∧ w'.cell? ⟨w.heap.size + 1, 1, none⟩ = some (.bool d) ∧ w'.cell? ⟨w.heap.size + 1, 2, none⟩ = some (.bool mu) ∧ w'.cell? ⟨w.heap.size + 1, 3, none⟩ = some (.int .i64 fo)) (go_keep) (first
      | (go_at_call 9; refine (prp.load_any _ (HE.out.below HBV2.out.drew)).mono ?_; rintro e w3 ⟨tbw3, rfl, hT, b0⟩; have b3 : Below V2.heap.size V2 w3 := (Below.refl _ V2).drew.trans b0; have HTw3 : Hid (prp.Tabs w3 tbw3) := hT; have HBw3 : Hid (Below w.heap.size w w3) := HBV2.out.trans (b3.mono HBV2.out.size); have HKw3 : Hid (Bk w3 kb _ _) := HKV2.out.on b3; have HCw3 : Hid (Bk w3 w.heap.size _ _) := HCV2.out.on b3; have HMw3 : Hid (Bk w3 (kb + 1) _ _) := HMV2.out.on b3; have HOw3 : Hid (Bk w3 (w.heap.size + 1) _ _) := HOV2.out.on b3; have zcw3 := cells8 HCw3.out; have zow3 := cells4 HOw3.out; clear hT b0 b3)
      | (go_at_call 14; refine (HSET.out _ _ HBw3.out HKw3.out HTw3.out).mono ?_; rintro e w4 ⟨vw4, rw4, rfl, o4, i4, j4, b4⟩; have HRw4 : Hid (rng.Own w4 w.heap.size vw4 rw4) := own_mn o4 HBw3.out.size; have HIw4 : Hid (er = 0 → IsP rw4 (fitN c fo d 201 (.mk 3 0 0 0 false ⟨#[]⟩ [] [t]))) := i4; have HJw4 : Hid (¬ er = 0 → rw4 = []) := j4; have HBw4 : Hid (Below w.heap.size w w4) := HBw3.out.trans (b4.mono HBw3.out.size); have HKw4 : Hid (Bk w4 kb _ _) := HKw3.out.on b4; have HCw4 : Hid (Bk w4 w.heap.size _ _) := HCw3.out.on b4; have HMw4 : Hid (Bk w4 (kb + 1) _ _) := HMw3.out.on b4; have HOw4 : Hid (Bk w4 (w.heap.size + 1) _ _) := HOw3.out.on b4; have zcw4 := cells8 HCw4.out; have zow4 := cells4 HOw4.out; clear o4 i4 j4 b4))
    have q1 := cells8 HMw4.out
    have q2 := cells4 HOw4.out
    clear zcw3 zow3 zcw4 zow4 y1 y2 HKV2 HCV2 HMV2 HOV2 HBV2 HSET HTw3 HKw3 HCw3 HMw3 HOw3 HBw3
    obtain ⟨aa, ac, hav⟩ := own_sl HRw4.out
    subst hav
    obtain ⟨an, han⟩ : ∃ x, rw4.length = x := ⟨_, rfl⟩
    have HAN : Hid (rw4.length = an) := han
    rw [han] at HRw4 ⊢
    clear han
    go_wp2
    go_region_held3 (fun w' => w'.cell? ⟨kb + 1, 0, none⟩ = some (.int .i64 3) ∧ w'.cell? ⟨kb + 1, 1, none⟩ = some (.int .i64 0) ∧ w'.cell? ⟨kb + 1, 2, none⟩ = some (.int .i64 0) ∧ w'.cell? ⟨kb + 1, 3, none⟩ = some (.int .i64 0) ∧ w'.cell? ⟨kb + 1, 4, none⟩ = some (.bool true) ∧ w'.cell? ⟨kb + 1, 5, none⟩ = some (.string ⟨#[]⟩) ∧ w'.cell? ⟨kb + 1, 6, none⟩ = some (.slice none 0 0) ∧ w'.cell? ⟨kb + 1, 7, none⟩ = some (.slice (some ⟨kb, 0, none⟩) 1 1) ∧ w'.cell? ⟨w.heap.size + 1, 0, none⟩ = some (.bool c) ∧ w'.cell? ⟨w.heap.size + 1, 1, none⟩ = some (.bool d) ∧ w'.cell? ⟨w.heap.size + 1, 2, none⟩ = some (.bool mu) ∧ w'.cell? ⟨w.heap.size + 1, 3, none⟩ = some (.int .i64 fo)) (go_keep) (first
      | (go_at_call 9; refine (prp.load_any _ (HE.out.below HBw4.out.drew)).mono ?_; rintro e w5 ⟨tbw5, rfl, hT, b0⟩; have b3 : Below w4.heap.size w4 w5 := (Below.refl _ w4).drew.trans b0; have HTw5 : Hid (prp.Tabs w5 tbw5) := hT; have HBw5 : Hid (Below w.heap.size w w5) := HBw4.out.trans (b3.mono HBw4.out.size); have HKw5 : Hid (Bk w5 kb _ _) := HKw4.out.on b3; have HCw5 : Hid (Bk w5 w.heap.size _ _) := HCw4.out.on b3; have HMw5 : Hid (Bk w5 (kb + 1) _ _) := HMw4.out.on b3; have HOw5 : Hid (Bk w5 (w.heap.size + 1) _ _) := HOw4.out.on b3; have HQw5 : Hid (rng.Own w5 w.heap.size (.slice aa an ac) rw4) := HRw4.out.below b3; have zcw5 := cells8 HMw5.out; have zow5 := cells4 HOw5.out; clear hT b0 b3)
      | (go_at_call 14; refine (HSETM.out _ _ HBw5.out HKw5.out HTw5.out).mono ?_; rintro e w6 ⟨vw6, rw6, rfl, o4, i4, j4, b4⟩; have HRw6 : Hid (rng.Own w6 w.heap.size vw6 rw6) := own_mn o4 HBw5.out.size; have HIw6 : Hid (er = 0 → IsP rw6 (fitN c fo d 201 (.mk 3 0 0 0 true ⟨#[]⟩ [] [t]))) := i4; have HJw6 : Hid (¬ er = 0 → rw6 = []) := j4; have HBw6 : Hid (Below w.heap.size w w6) := HBw5.out.trans (b4.mono HBw5.out.size); have HKw6 : Hid (Bk w6 kb _ _) := HKw5.out.on b4; have HCw6 : Hid (Bk w6 w.heap.size _ _) := HCw5.out.on b4; have HMw6 : Hid (Bk w6 (kb + 1) _ _) := HMw5.out.on b4; have HOw6 : Hid (Bk w6 (w.heap.size + 1) _ _) := HOw5.out.on b4; have HQw6 : Hid (rng.Own w6 w.heap.size (.slice aa an ac) rw4) := HQw5.out.below b4; have zcw6 := cells8 HMw6.out; have zow6 := cells4 HOw6.out; clear o4 i4 j4 b4))
    clear zcw5 zow5 zcw6 zow6 q1 q2 HKw4 HCw4 HMw4 HOw4 HBw4 HSETM HTw5 HKw5 HCw5 HMw5 HOw5 HBw5 HKw6 HCw6 HMw6 HOw6 HRw4 HQw5
    obtain ⟨ba, bc, hbv⟩ := own_sl HRw6.out
    subst hbv
    obtain ⟨bn, hbn⟩ : ∃ x, rw6.length = x := ⟨_, rfl⟩
    have HBN : Hid (rw6.length = bn) := hbn
    rw [hbn] at HRw6 ⊢
    clear hbn
    by_cases he : er = 0
    · have HI4 := HIw4.out he
      have HI6 := HIw6.out he
      have H4 : Hid (IsP rw4 (fitN c fo d 201 (.mk 3 0 0 0 false ⟨#[]⟩ [] [t]))) := HI4
      have H6 : Hid (IsP rw6 (fitN c fo d 201 (.mk 3 0 0 0 true ⟨#[]⟩ [] [t]))) := HI6
      have hl := HI4.len
      subst he
      have HCC : Hid (rng.canB 0 rw4 = true) := (rng.canB_iff 0 rw4).2 HI4.1
      clear HI4 HI6 HIw4 HIw6 HJw4 HJw6
      have HSL : Hid (Sl w6 (.slice aa an ac) rw4) := HQw6.out.sl
      have HSB : Hid (Sl w6 (.slice ba bn bc) rw6) := HRw6.out.sl
      have C := rng.rnot_s (.slice aa an ac) rw4 w6 HSL.out (by omega)
      clear HQw6 HRw6
      go_wp2_with fail
      refine C.mono ?_
      rintro e w7 ⟨v7, q, rfl, hq7, hq, b7⟩
      clear C
      have HE7 : Hid (q = rw6) := not_fit H4.out H6.out hq
      have hql : q.length ≤ 1000000 := by have := rng.can_len hq.1; omega
      have C := rng.equal_s v7 (.slice ba bn bc) q rw6 w7 hq7 (HSB.out.below b7) hql HE7.out
      have HB7 : Hid (Below w.heap.size w w7) := HBw6.out.trans (b7.mono HBw6.out.size)
      have HS7 : Hid (Sl w7 (.slice aa an ac) rw4) := HSL.out.below b7
      obtain ⟨qa, qc, hv7, _⟩ := hq7
      subst hv7
      clear hq b7 HSL HSB
      generalize q.length = qn at *
      go_wp2_with fail
      refine C.mono ?_
      rintro e w8 ⟨rfl, b8⟩
      clear C
      have C := rng.rcan_s (.slice aa an ac) rw4 w8 (HS7.out.below b8) (by omega)
      rw [HCC.out] at C
      have HB8 : Hid (Below w.heap.size w w8) := HB7.out.trans (b8.mono HB7.out.size)
      clear b8 HS7 HB7
      go_wp2_with fail
      refine C.mono ?_
      rintro e w9 ⟨rfl, b9⟩
      clear C
      have HB9 : Hid (Below w.heap.size w w9) := HB8.out.trans (b9.mono HB8.out.size)
      have C := awake_any w9 (HE.out.below HB9.out)
      clear b9 HB8
      go_wp2_with fail
      refine C.mono ?_
      rintro e w10 ⟨rfl, b10⟩
      clear C
      go_wp2
      go_ret
      exact ⟨rfl, HB9.out.trans (b10.mono HB9.out.size)⟩
    · have h4 := HJw4.out he
      have h6 := HJw6.out he
      have ha0 : an = 0 := by rw [← HAN.out, h4]; rfl
      have hb0 : bn = 0 := by rw [← HBN.out, h6]; rfl
      subst ha0 hb0
      have f1 : (er == 0) = false := by rw [beq_eq_false_iff_ne]; exact he
      have f2 : (er != 0) = true := by simpa using he
      have f3 : (er == er) = true := by simp
      clear h4 h6 HIw4 HIw6 HJw4 HJw6 HQw6 HRw6 HAN HBN
      have C := awake_any w6 (HE.out.below HBw6.out)
      go_wp2_with fail
      refine C.mono ?_
      rintro e w10 ⟨rfl, b10⟩
      clear C
      go_wp2
      go_ret
      exact ⟨rfl, HBw6.out.trans (b10.mono HBw6.out.size)⟩
end Go.Proofs.YtpcnbamlmfmmpaaGreatDoor.cls
end
