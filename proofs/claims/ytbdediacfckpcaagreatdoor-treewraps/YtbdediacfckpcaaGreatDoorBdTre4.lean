/- Texts that the proof leans on, one behind the other. -/
import Derived.Test.YtbdediacfckpcaaGreatDoorBdTre3
import Derived.Test.YtbdediacfckpcaaGreatDoorBdNod1

section
/- TreeWraps, walked. -/
set_option linter.unusedVariables false
set_option linter.unusedSimpArgs false
namespace Go.Proofs.YtbdediacfckpcaaGreatDoor.tre
open Go.RowKit nod
open Go.Proofs.YtbdediacfckpcaaGreatDoor.rng (R RV ret_int ret_bool below_drewN info_parts own_below')
open Go.Proofs.YtbdediacfckpcaaGreatDoor.tok (PEnv)

theorem infoNode : (Tryz.prog.info? 25).map (·.size) = some 8 := by kernel_rfl
theorem mixed : Tryz.prog.follows .mixedOrders = true := by kernel_rfl
theorem dep_group (t : Nd) (nm : ByteArray) : depN (.mk 9 0 1 0 false nm [] [t]) = depN t + 1 := by
  have := dep_bounds _ t (Nat.le_refl _)
  rw [depN, depL, depL, show sided 9 0 = false by decide, show brack 9 = true by decide]
  simp only [Bool.and_false, Bool.false_eq_true, if_false, if_true]
  omega
theorem dep_pair (t : Nd) (nm : ByteArray) : depN (.mk 6 0 0 0 false nm [] [t, t]) = depN t := by
  have := dep_bounds _ t (Nat.le_refl _)
  rw [depN, depL, depL, depL, show sided 6 0 = false by decide, show brack 6 = false by decide]
  simp only [Bool.and_false, Bool.false_eq_true, if_false]
  omega
theorem grp_group (t : Nd) (nm : ByteArray) : grpN (.mk 9 0 1 0 false nm [] [t]) = grpN t + 1 := by
  rw [grpN, grpL, grpL, if_pos ⟨rfl, by omega⟩]; omega
theorem grp_pair (t : Nd) (nm : ByteArray) : grpN (.mk 6 0 0 0 false nm [] [t, t]) = 2 * grpN t := by
  rw [grpN, grpL, grpL, grpL, if_neg (by decide)]; omega
set_option maxRecDepth 10000 in
set_option maxHeartbeats 16000000 in
theorem wraps_walk (v : Value) (t : Nd) (w : World) (hv : NV w.heap.size w t v) (E : PEnv w) :
    Calls Tryz.prog 6 #[v] w fun e w' => e = .returned (.bool true) ∧ Below w.heap.size w w' := by
  obtain ⟨k, m, a, b, g, n, st, ks, sa, sc, ao, cap, rfl, rfl, _⟩ := hv.open
  generalize st.length = sl at *
  generalize ks.length = nk at *
  have HB : Hid (Below w.heap.size w (w.alloc (.cells #[.int .i64 k, .int .i64 m, .int .i64 a, .int .i64 b, .bool g, .string n, .slice sa sl sc, .slice ao nk cap] 25))) := (Below.refl _ w).alloc (Nat.le_refl _) _
  have HX : Hid (Bk (w.alloc (.cells #[.int .i64 k, .int .i64 m, .int .i64 a, .int .i64 b, .bool g, .string n, .slice sa sl sc, .slice ao nk cap] 25)) w.heap.size #[.int .i64 k, .int .i64 m, .int .i64 a, .int .i64 b, .bool g, .string n, .slice sa sl sc, .slice ao nk cap] 25) := Bk.new w _ _
  obtain ⟨q, hq⟩ : ∃ q, (!(fewN (.mk k m a b g n st ks) 3000 300).2) = q := ⟨_, rfl⟩
  have CD := deep_any (.mk k m a b g n st ks) _ 3000 300 (w.alloc (.cells #[.int .i64 k, .int .i64 m, .int .i64 a, .int .i64 b, .bool g, .string n, .slice sa sl sc, .slice ao nk cap] 25)) ((hv.keep HB.out).wide (by simp)) (by omega) (by omega) (by omega) (by omega)
  rw [hq] at CD
  have CA : Hid (∀ W, Below w.heap.size w W → Calls Tryz.prog 8 #[] W fun e w' => e = .returned (.bool true) ∧ Below w.heap.size w w') := fun W h => (awake_any W (E.below h)).mono (by rintro e w' ⟨rfl, d⟩; exact ⟨rfl, h.trans (below_less d h.size)⟩)
  cases q with
  | true =>
    clear hv hq E
    go_enter Tryz.func6, Tryz.ntmps6
    go_wp2_with (first
      | (go_at_call 7; refine CD.mono ?_; rintro e w1 ⟨rfl, d⟩; have HD : Hid (Below w.heap.size w w1) := HB.out.trans (below_less d (by simp)); clear d)
      | (go_at_call 8; refine (CA.out _ HD.out).mono ?_; rintro e w2 ⟨rfl, d⟩; have HF : Hid (Below w.heap.size w w2) := d; clear d))
    go_ret
    exact ⟨rfl, HF.out⟩
  | false =>
  have hsz : ((.mk k m a b g n st ks) : Nd).sz ≤ 3000 := by have := deep_facts (t := (.mk k m a b g n st ks)) (nodes := 3000) (depth := 300) (by simpa using hq); omega
  have hdb := dep_bounds _ (.mk k m a b g n st ks) (Nat.le_refl _)
  have hgb := grp_bounds _ (.mk k m a b g n st ks) (Nat.le_refl _)
  obtain ⟨D, hD⟩ : ∃ D, depN (.mk k m a b g n st ks) = D := ⟨_, rfl⟩
  obtain ⟨G, hG⟩ : ∃ G, grpN (.mk k m a b g n st ks) = G := ⟨_, rfl⟩
  have d1 : 0 ≤ D := by omega
  have d2 : D ≤ 3000 := by omega
  have g1 : 0 ≤ G := by omega
  have g2 : G ≤ 3000 := by omega
  have HV : Hid (∀ W, Below w.heap.size w W → NV W.heap.size W (.mk k m a b g n st ks) (.agg #[.int .i64 k, .int .i64 m, .int .i64 a, .int .i64 b, .bool g, .string n, .slice sa sl sc, .slice ao nk cap])) := fun W h => (hv.keep h).wide h.size
  have HD0 : Hid (depN (.mk k m a b g n st ks) = D) := hD
  have HG0 : Hid (grpN (.mk k m a b g n st ks) = G) := hG
  have HSZ : Hid (((.mk k m a b g n st ks) : Nd).sz ≤ 3000) := hsz
  have HE : Hid (PEnv w) := E
  clear hv hq E hdb hgb hD hG hsz
  go_enter Tryz.func6, Tryz.ntmps6
  go_wp2_with (go_at_call 7; refine CD.mono ?_; rintro e w1 ⟨rfl, d⟩; have HD : Hid (Below w.heap.size w w1) := HB.out.trans (below_less d (by simp)); have HX1 : Hid (Bk w1 w.heap.size #[.int .i64 k, .int .i64 m, .int .i64 a, .int .i64 b, .bool g, .string n, .slice sa sl sc, .slice ao nk cap] 25) := HX.out.on d; have x0 := (HX.out.on d).cell 0 (u := .int .i64 k) rfl; have x1 := (HX.out.on d).cell 1 (u := .int .i64 m) rfl; have x2 := (HX.out.on d).cell 2 (u := .int .i64 a) rfl; have x3 := (HX.out.on d).cell 3 (u := .int .i64 b) rfl; have x4 := (HX.out.on d).cell 4 (u := .bool g) rfl; have x5 := (HX.out.on d).cell 5 (u := .string n) rfl; have x6 := (HX.out.on d).cell 6 (u := .slice sa sl sc) rfl; have x7 := (HX.out.on d).cell 7 (u := .slice ao nk cap) rfl; have z0 := (((HX.out.on d).past (.cells #[.int .i64 k, .int .i64 m, .int .i64 a, .int .i64 b, .bool g, .string n, .slice sa sl sc, .slice ao nk cap] 25)).past (.cells #[.int .i64 9, .int .i64 0, .int .i64 1, .int .i64 0, .bool false, .string ⟨#[]⟩, .slice none 0 0, .slice (some ⟨w1.heap.size, 0, none⟩) 1 1] 25)).cell 0 (u := .int .i64 k) rfl; have z1 := (((HX.out.on d).past (.cells #[.int .i64 k, .int .i64 m, .int .i64 a, .int .i64 b, .bool g, .string n, .slice sa sl sc, .slice ao nk cap] 25)).past (.cells #[.int .i64 9, .int .i64 0, .int .i64 1, .int .i64 0, .bool false, .string ⟨#[]⟩, .slice none 0 0, .slice (some ⟨w1.heap.size, 0, none⟩) 1 1] 25)).cell 1 (u := .int .i64 m) rfl; have z2 := (((HX.out.on d).past (.cells #[.int .i64 k, .int .i64 m, .int .i64 a, .int .i64 b, .bool g, .string n, .slice sa sl sc, .slice ao nk cap] 25)).past (.cells #[.int .i64 9, .int .i64 0, .int .i64 1, .int .i64 0, .bool false, .string ⟨#[]⟩, .slice none 0 0, .slice (some ⟨w1.heap.size, 0, none⟩) 1 1] 25)).cell 2 (u := .int .i64 a) rfl; have z3 := (((HX.out.on d).past (.cells #[.int .i64 k, .int .i64 m, .int .i64 a, .int .i64 b, .bool g, .string n, .slice sa sl sc, .slice ao nk cap] 25)).past (.cells #[.int .i64 9, .int .i64 0, .int .i64 1, .int .i64 0, .bool false, .string ⟨#[]⟩, .slice none 0 0, .slice (some ⟨w1.heap.size, 0, none⟩) 1 1] 25)).cell 3 (u := .int .i64 b) rfl; have z4 := (((HX.out.on d).past (.cells #[.int .i64 k, .int .i64 m, .int .i64 a, .int .i64 b, .bool g, .string n, .slice sa sl sc, .slice ao nk cap] 25)).past (.cells #[.int .i64 9, .int .i64 0, .int .i64 1, .int .i64 0, .bool false, .string ⟨#[]⟩, .slice none 0 0, .slice (some ⟨w1.heap.size, 0, none⟩) 1 1] 25)).cell 4 (u := .bool g) rfl; have z5 := (((HX.out.on d).past (.cells #[.int .i64 k, .int .i64 m, .int .i64 a, .int .i64 b, .bool g, .string n, .slice sa sl sc, .slice ao nk cap] 25)).past (.cells #[.int .i64 9, .int .i64 0, .int .i64 1, .int .i64 0, .bool false, .string ⟨#[]⟩, .slice none 0 0, .slice (some ⟨w1.heap.size, 0, none⟩) 1 1] 25)).cell 5 (u := .string n) rfl; have z6 := (((HX.out.on d).past (.cells #[.int .i64 k, .int .i64 m, .int .i64 a, .int .i64 b, .bool g, .string n, .slice sa sl sc, .slice ao nk cap] 25)).past (.cells #[.int .i64 9, .int .i64 0, .int .i64 1, .int .i64 0, .bool false, .string ⟨#[]⟩, .slice none 0 0, .slice (some ⟨w1.heap.size, 0, none⟩) 1 1] 25)).cell 6 (u := .slice sa sl sc) rfl; have z7 := (((HX.out.on d).past (.cells #[.int .i64 k, .int .i64 m, .int .i64 a, .int .i64 b, .bool g, .string n, .slice sa sl sc, .slice ao nk cap] 25)).past (.cells #[.int .i64 9, .int .i64 0, .int .i64 1, .int .i64 0, .bool false, .string ⟨#[]⟩, .slice none 0 0, .slice (some ⟨w1.heap.size, 0, none⟩) 1 1] 25)).cell 7 (u := .slice ao nk cap) rfl; clear d)
  have hw1 : w.heap.size < w1.heap.size := HX1.out.lt
  have zz : ((((w1.alloc (.cells #[.int .i64 k, .int .i64 m, .int .i64 a, .int .i64 b, .bool g, .string n, .slice sa sl sc, .slice ao nk cap] 25)).alloc (.cells #[.int .i64 9, .int .i64 0, .int .i64 1, .int .i64 0, .bool false, .string ⟨#[]⟩, .slice none 0 0, .slice (some ⟨w1.heap.size, 0, none⟩) 1 1] 25)).alloc (.cells #[.int .i64 k, .int .i64 m, .int .i64 a, .int .i64 b, .bool g, .string n, .slice sa sl sc, .slice ao nk cap, .int .i64 k, .int .i64 m, .int .i64 a, .int .i64 b, .bool g, .string n, .slice sa sl sc, .slice ao nk cap] 25)).alloc (.cells #[.int .i64 6, .int .i64 0, .int .i64 0, .int .i64 0, .bool false, .string ⟨#[]⟩, .slice none 0 0, .slice (some ⟨w1.heap.size + 1 + 1, 0, none⟩) 2 2] 25)).heap.size = w1.heap.size + 4 := by simp
  have B4 : Below w1.heap.size w1 ((((w1.alloc (.cells #[.int .i64 k, .int .i64 m, .int .i64 a, .int .i64 b, .bool g, .string n, .slice sa sl sc, .slice ao nk cap] 25)).alloc (.cells #[.int .i64 9, .int .i64 0, .int .i64 1, .int .i64 0, .bool false, .string ⟨#[]⟩, .slice none 0 0, .slice (some ⟨w1.heap.size, 0, none⟩) 1 1] 25)).alloc (.cells #[.int .i64 k, .int .i64 m, .int .i64 a, .int .i64 b, .bool g, .string n, .slice sa sl sc, .slice ao nk cap, .int .i64 k, .int .i64 m, .int .i64 a, .int .i64 b, .bool g, .string n, .slice sa sl sc, .slice ao nk cap] 25)).alloc (.cells #[.int .i64 6, .int .i64 0, .int .i64 0, .int .i64 0, .bool false, .string ⟨#[]⟩, .slice none 0 0, .slice (some ⟨w1.heap.size + 1 + 1, 0, none⟩) 2 2] 25)) := ((((Below.refl _ w1).alloc (Nat.le_refl _) _).alloc (by simp) _).alloc (by simp; omega) _).alloc (by simp; omega) _
  have BW : Below w.heap.size w ((((w1.alloc (.cells #[.int .i64 k, .int .i64 m, .int .i64 a, .int .i64 b, .bool g, .string n, .slice sa sl sc, .slice ao nk cap] 25)).alloc (.cells #[.int .i64 9, .int .i64 0, .int .i64 1, .int .i64 0, .bool false, .string ⟨#[]⟩, .slice none 0 0, .slice (some ⟨w1.heap.size, 0, none⟩) 1 1] 25)).alloc (.cells #[.int .i64 k, .int .i64 m, .int .i64 a, .int .i64 b, .bool g, .string n, .slice sa sl sc, .slice ao nk cap, .int .i64 k, .int .i64 m, .int .i64 a, .int .i64 b, .bool g, .string n, .slice sa sl sc, .slice ao nk cap] 25)).alloc (.cells #[.int .i64 6, .int .i64 0, .int .i64 0, .int .i64 0, .bool false, .string ⟨#[]⟩, .slice none 0 0, .slice (some ⟨w1.heap.size + 1 + 1, 0, none⟩) 2 2] 25)) := HD.out.trans (below_less B4 (by omega))
  have bn : Bk ((((w1.alloc (.cells #[.int .i64 k, .int .i64 m, .int .i64 a, .int .i64 b, .bool g, .string n, .slice sa sl sc, .slice ao nk cap] 25)).alloc (.cells #[.int .i64 9, .int .i64 0, .int .i64 1, .int .i64 0, .bool false, .string ⟨#[]⟩, .slice none 0 0, .slice (some ⟨w1.heap.size, 0, none⟩) 1 1] 25)).alloc (.cells #[.int .i64 k, .int .i64 m, .int .i64 a, .int .i64 b, .bool g, .string n, .slice sa sl sc, .slice ao nk cap, .int .i64 k, .int .i64 m, .int .i64 a, .int .i64 b, .bool g, .string n, .slice sa sl sc, .slice ao nk cap] 25)).alloc (.cells #[.int .i64 6, .int .i64 0, .int .i64 0, .int .i64 0, .bool false, .string ⟨#[]⟩, .slice none 0 0, .slice (some ⟨w1.heap.size + 1 + 1, 0, none⟩) 2 2] 25)) w.heap.size #[.int .i64 k, .int .i64 m, .int .i64 a, .int .i64 b, .bool g, .string n, .slice sa sl sc, .slice ao nk cap] 25 := HX1.out.on B4
  have bx : Bk ((((w1.alloc (.cells #[.int .i64 k, .int .i64 m, .int .i64 a, .int .i64 b, .bool g, .string n, .slice sa sl sc, .slice ao nk cap] 25)).alloc (.cells #[.int .i64 9, .int .i64 0, .int .i64 1, .int .i64 0, .bool false, .string ⟨#[]⟩, .slice none 0 0, .slice (some ⟨w1.heap.size, 0, none⟩) 1 1] 25)).alloc (.cells #[.int .i64 k, .int .i64 m, .int .i64 a, .int .i64 b, .bool g, .string n, .slice sa sl sc, .slice ao nk cap, .int .i64 k, .int .i64 m, .int .i64 a, .int .i64 b, .bool g, .string n, .slice sa sl sc, .slice ao nk cap] 25)).alloc (.cells #[.int .i64 6, .int .i64 0, .int .i64 0, .int .i64 0, .bool false, .string ⟨#[]⟩, .slice none 0 0, .slice (some ⟨w1.heap.size + 1 + 1, 0, none⟩) 2 2] 25)) (w1.heap.size + 1) #[.int .i64 9, .int .i64 0, .int .i64 1, .int .i64 0, .bool false, .string ⟨#[]⟩, .slice none 0 0, .slice (some ⟨w1.heap.size, 0, none⟩) 1 1] 25 := (bk2.past _).past _
  have by_ : Bk ((((w1.alloc (.cells #[.int .i64 k, .int .i64 m, .int .i64 a, .int .i64 b, .bool g, .string n, .slice sa sl sc, .slice ao nk cap] 25)).alloc (.cells #[.int .i64 9, .int .i64 0, .int .i64 1, .int .i64 0, .bool false, .string ⟨#[]⟩, .slice none 0 0, .slice (some ⟨w1.heap.size, 0, none⟩) 1 1] 25)).alloc (.cells #[.int .i64 k, .int .i64 m, .int .i64 a, .int .i64 b, .bool g, .string n, .slice sa sl sc, .slice ao nk cap, .int .i64 k, .int .i64 m, .int .i64 a, .int .i64 b, .bool g, .string n, .slice sa sl sc, .slice ao nk cap] 25)).alloc (.cells #[.int .i64 6, .int .i64 0, .int .i64 0, .int .i64 0, .bool false, .string ⟨#[]⟩, .slice none 0 0, .slice (some ⟨w1.heap.size + 1 + 1, 0, none⟩) 2 2] 25)) (w1.heap.size + 1 + 1 + 1) #[.int .i64 6, .int .i64 0, .int .i64 0, .int .i64 0, .bool false, .string ⟨#[]⟩, .slice none 0 0, .slice (some ⟨w1.heap.size + 1 + 1, 0, none⟩) 2 2] 25 := by have := Bk.new (((w1.alloc (.cells #[.int .i64 k, .int .i64 m, .int .i64 a, .int .i64 b, .bool g, .string n, .slice sa sl sc, .slice ao nk cap] 25)).alloc (.cells #[.int .i64 9, .int .i64 0, .int .i64 1, .int .i64 0, .bool false, .string ⟨#[]⟩, .slice none 0 0, .slice (some ⟨w1.heap.size, 0, none⟩) 1 1] 25)).alloc (.cells #[.int .i64 k, .int .i64 m, .int .i64 a, .int .i64 b, .bool g, .string n, .slice sa sl sc, .slice ao nk cap, .int .i64 k, .int .i64 m, .int .i64 a, .int .i64 b, .bool g, .string n, .slice sa sl sc, .slice ao nk cap] 25)) #[.int .i64 6, .int .i64 0, .int .i64 0, .int .i64 0, .bool false, .string ⟨#[]⟩, .slice none 0 0, .slice (some ⟨w1.heap.size + 1 + 1, 0, none⟩) 2 2] 25; simpa using this
  have br : Bk ((((w1.alloc (.cells #[.int .i64 k, .int .i64 m, .int .i64 a, .int .i64 b, .bool g, .string n, .slice sa sl sc, .slice ao nk cap] 25)).alloc (.cells #[.int .i64 9, .int .i64 0, .int .i64 1, .int .i64 0, .bool false, .string ⟨#[]⟩, .slice none 0 0, .slice (some ⟨w1.heap.size, 0, none⟩) 1 1] 25)).alloc (.cells #[.int .i64 k, .int .i64 m, .int .i64 a, .int .i64 b, .bool g, .string n, .slice sa sl sc, .slice ao nk cap, .int .i64 k, .int .i64 m, .int .i64 a, .int .i64 b, .bool g, .string n, .slice sa sl sc, .slice ao nk cap] 25)).alloc (.cells #[.int .i64 6, .int .i64 0, .int .i64 0, .int .i64 0, .bool false, .string ⟨#[]⟩, .slice none 0 0, .slice (some ⟨w1.heap.size + 1 + 1, 0, none⟩) 2 2] 25)) w1.heap.size #[.int .i64 k, .int .i64 m, .int .i64 a, .int .i64 b, .bool g, .string n, .slice sa sl sc, .slice ao nk cap] 25 := (((Bk.new w1 _ _).past _).past _).past _
  have bs : Bk ((((w1.alloc (.cells #[.int .i64 k, .int .i64 m, .int .i64 a, .int .i64 b, .bool g, .string n, .slice sa sl sc, .slice ao nk cap] 25)).alloc (.cells #[.int .i64 9, .int .i64 0, .int .i64 1, .int .i64 0, .bool false, .string ⟨#[]⟩, .slice none 0 0, .slice (some ⟨w1.heap.size, 0, none⟩) 1 1] 25)).alloc (.cells #[.int .i64 k, .int .i64 m, .int .i64 a, .int .i64 b, .bool g, .string n, .slice sa sl sc, .slice ao nk cap, .int .i64 k, .int .i64 m, .int .i64 a, .int .i64 b, .bool g, .string n, .slice sa sl sc, .slice ao nk cap] 25)).alloc (.cells #[.int .i64 6, .int .i64 0, .int .i64 0, .int .i64 0, .bool false, .string ⟨#[]⟩, .slice none 0 0, .slice (some ⟨w1.heap.size + 1 + 1, 0, none⟩) 2 2] 25)) (w1.heap.size + 1 + 1) #[.int .i64 k, .int .i64 m, .int .i64 a, .int .i64 b, .bool g, .string n, .slice sa sl sc, .slice ao nk cap, .int .i64 k, .int .i64 m, .int .i64 a, .int .i64 b, .bool g, .string n, .slice sa sl sc, .slice ao nk cap] 25 := by have := (Bk.new ((w1.alloc (.cells #[.int .i64 k, .int .i64 m, .int .i64 a, .int .i64 b, .bool g, .string n, .slice sa sl sc, .slice ao nk cap] 25)).alloc (.cells #[.int .i64 9, .int .i64 0, .int .i64 1, .int .i64 0, .bool false, .string ⟨#[]⟩, .slice none 0 0, .slice (some ⟨w1.heap.size, 0, none⟩) 1 1] 25)) #[.int .i64 k, .int .i64 m, .int .i64 a, .int .i64 b, .bool g, .string n, .slice sa sl sc, .slice ao nk cap, .int .i64 k, .int .i64 m, .int .i64 a, .int .i64 b, .bool g, .string n, .slice sa sl sc, .slice ao nk cap] 25).past (.cells #[.int .i64 6, .int .i64 0, .int .i64 0, .int .i64 0, .bool false, .string ⟨#[]⟩, .slice none 0 0, .slice (some ⟨w1.heap.size + 1 + 1, 0, none⟩) 2 2] 25); simpa using this
  obtain ⟨V, hV⟩ : ∃ V, V = ((((w1.alloc (.cells #[.int .i64 k, .int .i64 m, .int .i64 a, .int .i64 b, .bool g, .string n, .slice sa sl sc, .slice ao nk cap] 25)).alloc (.cells #[.int .i64 9, .int .i64 0, .int .i64 1, .int .i64 0, .bool false, .string ⟨#[]⟩, .slice none 0 0, .slice (some ⟨w1.heap.size, 0, none⟩) 1 1] 25)).alloc (.cells #[.int .i64 k, .int .i64 m, .int .i64 a, .int .i64 b, .bool g, .string n, .slice sa sl sc, .slice ao nk cap, .int .i64 k, .int .i64 m, .int .i64 a, .int .i64 b, .bool g, .string n, .slice sa sl sc, .slice ao nk cap] 25)).alloc (.cells #[.int .i64 6, .int .i64 0, .int .i64 0, .int .i64 0, .bool false, .string ⟨#[]⟩, .slice none 0 0, .slice (some ⟨w1.heap.size + 1 + 1, 0, none⟩) 2 2] 25)) := ⟨_, rfl⟩
  rw [← hV] at zz B4 BW bn bx by_ br bs
  have kx : ∀ W, Below V.heap.size V W → KV W.heap.size W (some ⟨w1.heap.size, 0, none⟩) [(.mk k m a b g n st ks)] := fun W h => .inr ⟨_, _, rfl, by have := h.size; omega, fun i u hi => by
    match i, hi with
    | 0, hi => simp at hi; subst hi; exact ⟨_, at8_first (br.on h), HV.out W (BW.trans (below_less h (by omega)))⟩
    | j + 1, hi => simp at hi⟩
  have ky : ∀ W, Below V.heap.size V W → KV W.heap.size W (some ⟨w1.heap.size + 1 + 1, 0, none⟩) [(.mk k m a b g n st ks), (.mk k m a b g n st ks)] := fun W h => .inr ⟨_, _, rfl, by have := h.size; omega, fun i u hi => by
    have c := bs.on h
    match i, hi with
    | 0, hi => simp at hi; subst hi; exact ⟨_, ⟨_, _, _, _, _, _, _, _, rfl, c.cell 0 rfl, c.cell 1 rfl, c.cell 2 rfl, c.cell 3 rfl, c.cell 4 rfl, c.cell 5 rfl, c.cell 6 rfl, c.cell 7 rfl⟩, HV.out W (BW.trans (below_less h (by omega)))⟩
    | 1, hi => simp at hi; subst hi; exact ⟨_, ⟨_, _, _, _, _, _, _, _, rfl, c.cell 8 rfl, c.cell 9 rfl, c.cell 10 rfl, c.cell 11 rfl, c.cell 12 rfl, c.cell 13 rfl, c.cell 14 rfl, c.cell 15 rfl⟩, HV.out W (BW.trans (below_less h (by omega)))⟩
    | j + 2, hi => simp at hi⟩
  have vx : ∀ W, Below V.heap.size V W → NV W.heap.size W (.mk 9 0 1 0 false ⟨#[]⟩ [] [(.mk k m a b g n st ks)]) (.agg #[.int .i64 9, .int .i64 0, .int .i64 1, .int .i64 0, .bool false, .string ⟨#[]⟩, .slice none 0 0, .slice (some ⟨w1.heap.size, 0, none⟩) 1 1]) := fun W h => NV.shut (s := []) (ks := [(.mk k m a b g n st ks)]) (by unfold I64; omega) (by decide) ⟨.inl rfl, fun x e => (by cases e), by simp, by simp, fun _ => rfl⟩ ⟨by simp, by unfold maxLen; omega, fun e => (by cases e)⟩ (kx W h)
  have vy : ∀ W, Below V.heap.size V W → NV W.heap.size W (.mk 6 0 0 0 false ⟨#[]⟩ [] [(.mk k m a b g n st ks), (.mk k m a b g n st ks)]) (.agg #[.int .i64 6, .int .i64 0, .int .i64 0, .int .i64 0, .bool false, .string ⟨#[]⟩, .slice none 0 0, .slice (some ⟨w1.heap.size + 1 + 1, 0, none⟩) 2 2]) := fun W h => NV.shut (s := []) (ks := [(.mk k m a b g n st ks), (.mk k m a b g n st ks)]) (by unfold I64; omega) (by decide) ⟨.inl rfl, fun x e => (by cases e), by simp, by simp, fun _ => rfl⟩ ⟨by simp, by unfold maxLen; omega, fun e => (by cases e)⟩ (ky W h)
  have sx : (Nd.mk 9 0 1 0 false ⟨#[]⟩ [] [(.mk k m a b g n st ks)]).sz ≤ 100000000 := by have := HSZ.out; rw [Nd.sz, szL, szL]; omega
  have sy : (Nd.mk 6 0 0 0 false ⟨#[]⟩ [] [(.mk k m a b g n st ks), (.mk k m a b g n st ks)]).sz ≤ 100000000 := by have := HSZ.out; rw [Nd.sz, szL, szL, szL]; omega
  have KDX : Hid (∀ W, Below V.heap.size V W → Calls Tryz.prog 16 #[.agg #[.int .i64 9, .int .i64 0, .int .i64 1, .int .i64 0, .bool false, .string ⟨#[]⟩, .slice none 0 0, .slice (some ⟨w1.heap.size, 0, none⟩) 1 1]] W fun e w' => e = .returned (.int .i64 (D + 1)) ∧ Below V.heap.size V w') := fun W h => (depth_any _ _ _ W (Nat.le_refl _) sx (vx W h)).mono (by rintro e w' ⟨rfl, d⟩; exact ⟨by rw [dep_group, HD0.out], h.trans (below_less d h.size)⟩)
  have KDY : Hid (∀ W, Below V.heap.size V W → Calls Tryz.prog 16 #[.agg #[.int .i64 6, .int .i64 0, .int .i64 0, .int .i64 0, .bool false, .string ⟨#[]⟩, .slice none 0 0, .slice (some ⟨w1.heap.size + 1 + 1, 0, none⟩) 2 2]] W fun e w' => e = .returned (.int .i64 D) ∧ Below V.heap.size V w') := fun W h => (depth_any _ _ _ W (Nat.le_refl _) sy (vy W h)).mono (by rintro e w' ⟨rfl, d⟩; exact ⟨by rw [dep_pair, HD0.out], h.trans (below_less d h.size)⟩)
  have KGX : Hid (∀ W, Below V.heap.size V W → Calls Tryz.prog 15 #[.agg #[.int .i64 9, .int .i64 0, .int .i64 1, .int .i64 0, .bool false, .string ⟨#[]⟩, .slice none 0 0, .slice (some ⟨w1.heap.size, 0, none⟩) 1 1]] W fun e w' => e = .returned (.int .i64 (G + 1)) ∧ Below V.heap.size V w') := fun W h => (groups_any _ _ _ W (Nat.le_refl _) sx (vx W h)).mono (by rintro e w' ⟨rfl, d⟩; exact ⟨by rw [grp_group, HG0.out], h.trans (below_less d h.size)⟩)
  have KGY : Hid (∀ W, Below V.heap.size V W → Calls Tryz.prog 15 #[.agg #[.int .i64 6, .int .i64 0, .int .i64 0, .int .i64 0, .bool false, .string ⟨#[]⟩, .slice none 0 0, .slice (some ⟨w1.heap.size + 1 + 1, 0, none⟩) 2 2]] W fun e w' => e = .returned (.int .i64 (2 * G)) ∧ Below V.heap.size V w') := fun W h => (groups_any _ _ _ W (Nat.le_refl _) sy (vy W h)).mono (by rintro e w' ⟨rfl, d⟩; exact ⟨by rw [grp_pair, HG0.out], h.trans (below_less d h.size)⟩)
  have KDN : Hid (∀ W, Below V.heap.size V W → Calls Tryz.prog 16 #[.agg #[.int .i64 k, .int .i64 m, .int .i64 a, .int .i64 b, .bool g, .string n, .slice sa sl sc, .slice ao nk cap]] W fun e w' => e = .returned (.int .i64 D) ∧ Below V.heap.size V w') := fun W h => (depth_any _ _ _ W (Nat.le_refl _) (by have := HSZ.out; omega) (HV.out W (BW.trans (below_less h (by omega))))).mono (by rintro e w' ⟨rfl, d⟩; exact ⟨by rw [HD0.out], h.trans (below_less d h.size)⟩)
  have KGN : Hid (∀ W, Below V.heap.size V W → Calls Tryz.prog 15 #[.agg #[.int .i64 k, .int .i64 m, .int .i64 a, .int .i64 b, .bool g, .string n, .slice sa sl sc, .slice ao nk cap]] W fun e w' => e = .returned (.int .i64 G) ∧ Below V.heap.size V w') := fun W h => (groups_any _ _ _ W (Nat.le_refl _) (by have := HSZ.out; omega) (HV.out W (BW.trans (below_less h (by omega))))).mono (by rintro e w' ⟨rfl, d⟩; exact ⟨by rw [HG0.out], h.trans (below_less d h.size)⟩)
  have HEV : Hid (PEnv V) := HE.out.below BW
  have KAW : Hid (∀ W, Below V.heap.size V W → Calls Tryz.prog 8 #[] W fun e w' => e = .returned (.bool true) ∧ Below V.heap.size V w') := fun W h => (awake_any W (HEV.out.below h)).mono (by rintro e w' ⟨rfl, d⟩; exact ⟨rfl, h.trans (below_less d h.size)⟩)
  have an0 : ∀ p : Abv V.heap.size V, p.w.cell? ⟨w.heap.size, 0, none⟩ = some (.int .i64 k) := fun p => Bk.above bn (by omega) 0 (u := .int .i64 k) rfl p
  have an1 : ∀ p : Abv V.heap.size V, p.w.cell? ⟨w.heap.size, 1, none⟩ = some (.int .i64 m) := fun p => Bk.above bn (by omega) 1 (u := .int .i64 m) rfl p
  have an2 : ∀ p : Abv V.heap.size V, p.w.cell? ⟨w.heap.size, 2, none⟩ = some (.int .i64 a) := fun p => Bk.above bn (by omega) 2 (u := .int .i64 a) rfl p
  have an3 : ∀ p : Abv V.heap.size V, p.w.cell? ⟨w.heap.size, 3, none⟩ = some (.int .i64 b) := fun p => Bk.above bn (by omega) 3 (u := .int .i64 b) rfl p
  have an4 : ∀ p : Abv V.heap.size V, p.w.cell? ⟨w.heap.size, 4, none⟩ = some (.bool g) := fun p => Bk.above bn (by omega) 4 (u := .bool g) rfl p
  have an5 : ∀ p : Abv V.heap.size V, p.w.cell? ⟨w.heap.size, 5, none⟩ = some (.string n) := fun p => Bk.above bn (by omega) 5 (u := .string n) rfl p
  have an6 : ∀ p : Abv V.heap.size V, p.w.cell? ⟨w.heap.size, 6, none⟩ = some (.slice sa sl sc) := fun p => Bk.above bn (by omega) 6 (u := .slice sa sl sc) rfl p
  have an7 : ∀ p : Abv V.heap.size V, p.w.cell? ⟨w.heap.size, 7, none⟩ = some (.slice ao nk cap) := fun p => Bk.above bn (by omega) 7 (u := .slice ao nk cap) rfl p
  have ax0 : ∀ p : Abv V.heap.size V, p.w.cell? ⟨w1.heap.size + 1, 0, none⟩ = some (.int .i64 9) := fun p => Bk.above bx (by omega) 0 (u := .int .i64 9) rfl p
  have ax1 : ∀ p : Abv V.heap.size V, p.w.cell? ⟨w1.heap.size + 1, 1, none⟩ = some (.int .i64 0) := fun p => Bk.above bx (by omega) 1 (u := .int .i64 0) rfl p
  have ax2 : ∀ p : Abv V.heap.size V, p.w.cell? ⟨w1.heap.size + 1, 2, none⟩ = some (.int .i64 1) := fun p => Bk.above bx (by omega) 2 (u := .int .i64 1) rfl p
  have ax3 : ∀ p : Abv V.heap.size V, p.w.cell? ⟨w1.heap.size + 1, 3, none⟩ = some (.int .i64 0) := fun p => Bk.above bx (by omega) 3 (u := .int .i64 0) rfl p
  have ax4 : ∀ p : Abv V.heap.size V, p.w.cell? ⟨w1.heap.size + 1, 4, none⟩ = some (.bool false) := fun p => Bk.above bx (by omega) 4 (u := .bool false) rfl p
  have ax5 : ∀ p : Abv V.heap.size V, p.w.cell? ⟨w1.heap.size + 1, 5, none⟩ = some (.string ⟨#[]⟩) := fun p => Bk.above bx (by omega) 5 (u := .string ⟨#[]⟩) rfl p
  have ax6 : ∀ p : Abv V.heap.size V, p.w.cell? ⟨w1.heap.size + 1, 6, none⟩ = some (.slice none 0 0) := fun p => Bk.above bx (by omega) 6 (u := .slice none 0 0) rfl p
  have ax7 : ∀ p : Abv V.heap.size V, p.w.cell? ⟨w1.heap.size + 1, 7, none⟩ = some (.slice (some ⟨w1.heap.size, 0, none⟩) 1 1) := fun p => Bk.above bx (by omega) 7 (u := .slice (some ⟨w1.heap.size, 0, none⟩) 1 1) rfl p
  have ay0 : ∀ p : Abv V.heap.size V, p.w.cell? ⟨w1.heap.size + 1 + 1 + 1, 0, none⟩ = some (.int .i64 6) := fun p => Bk.above by_ (by omega) 0 (u := .int .i64 6) rfl p
  have ay1 : ∀ p : Abv V.heap.size V, p.w.cell? ⟨w1.heap.size + 1 + 1 + 1, 1, none⟩ = some (.int .i64 0) := fun p => Bk.above by_ (by omega) 1 (u := .int .i64 0) rfl p
  have ay2 : ∀ p : Abv V.heap.size V, p.w.cell? ⟨w1.heap.size + 1 + 1 + 1, 2, none⟩ = some (.int .i64 0) := fun p => Bk.above by_ (by omega) 2 (u := .int .i64 0) rfl p
  have ay3 : ∀ p : Abv V.heap.size V, p.w.cell? ⟨w1.heap.size + 1 + 1 + 1, 3, none⟩ = some (.int .i64 0) := fun p => Bk.above by_ (by omega) 3 (u := .int .i64 0) rfl p
  have ay4 : ∀ p : Abv V.heap.size V, p.w.cell? ⟨w1.heap.size + 1 + 1 + 1, 4, none⟩ = some (.bool false) := fun p => Bk.above by_ (by omega) 4 (u := .bool false) rfl p
  have ay5 : ∀ p : Abv V.heap.size V, p.w.cell? ⟨w1.heap.size + 1 + 1 + 1, 5, none⟩ = some (.string ⟨#[]⟩) := fun p => Bk.above by_ (by omega) 5 (u := .string ⟨#[]⟩) rfl p
  have ay6 : ∀ p : Abv V.heap.size V, p.w.cell? ⟨w1.heap.size + 1 + 1 + 1, 6, none⟩ = some (.slice none 0 0) := fun p => Bk.above by_ (by omega) 6 (u := .slice none 0 0) rfl p
  have ay7 : ∀ p : Abv V.heap.size V, p.w.cell? ⟨w1.heap.size + 1 + 1 + 1, 7, none⟩ = some (.slice (some ⟨w1.heap.size + 1 + 1, 0, none⟩) 2 2) := fun p => Bk.above by_ (by omega) 7 (u := .slice (some ⟨w1.heap.size + 1 + 1, 0, none⟩) 2 2) rfl p
  have HBW : Hid (Below w.heap.size w V) := BW
  have HZV : Hid (w.heap.size ≤ V.heap.size) := by unfold Hid; omega
  have HVV : Hid (V = ((((w1.alloc (.cells #[.int .i64 k, .int .i64 m, .int .i64 a, .int .i64 b, .bool g, .string n, .slice sa sl sc, .slice ao nk cap] 25)).alloc (.cells #[.int .i64 9, .int .i64 0, .int .i64 1, .int .i64 0, .bool false, .string ⟨#[]⟩, .slice none 0 0, .slice (some ⟨w1.heap.size, 0, none⟩) 1 1] 25)).alloc (.cells #[.int .i64 k, .int .i64 m, .int .i64 a, .int .i64 b, .bool g, .string n, .slice sa sl sc, .slice ao nk cap, .int .i64 k, .int .i64 m, .int .i64 a, .int .i64 b, .bool g, .string n, .slice sa sl sc, .slice ao nk cap] 25)).alloc (.cells #[.int .i64 6, .int .i64 0, .int .i64 0, .int .i64 0, .bool false, .string ⟨#[]⟩, .slice none 0 0, .slice (some ⟨w1.heap.size + 1 + 1, 0, none⟩) 2 2] 25))) := hV
  clear kx ky vx vy sx sy B4 BW bn bx by_ br bs hV zz x0 z0 x1 z1 x2 z2 x3 z3 x4 z4 x5 z5 x6 z6 x7 z7
  have w1' : IntKind.i64.wrap (D + 1) = D + 1 := by rw [IntKind.wrap_i64]; omega
  have w2' : IntKind.i64.wrap (G + 1) = G + 1 := by rw [IntKind.wrap_i64]; omega
  have w3' : IntKind.i64.wrap (2 * G) = 2 * G := by rw [IntKind.wrap_i64]; omega
  refine region_above V.heap.size V mixed (by kernel_rfl) (by rw [HVV.out]; exact ⟨rfl, rfl, rfl, Nat.le_refl _, fun _ _ => rfl⟩) ?_
  repeat (refine wpQuiet_step (fun K hK => ?_)
          go_simp
          first
            | (refine hK _ ?_; clear hK K)
            | (apply Exists.intro
               refine ⟨fun _ => ?_, hK _ ?_⟩
               (first
                 | (go_at_call_of 16 (Value.slice ao nk cap); refine calls_above KDN.out _)
                 | (go_at_call_of 15 (Value.slice ao nk cap); refine calls_above KGN.out _)
                 | (go_at_call_of 16 (Value.int IntKind.i64 9); refine calls_above KDX.out _)
                 | (go_at_call_of 15 (Value.int IntKind.i64 9); refine calls_above KGX.out _)
                 | (go_at_call 16; refine calls_above KDY.out _)
                 | (go_at_call 15; refine calls_above KGY.out _)
                 | (go_at_call 8; refine calls_above KAW.out _))
               clear hK K))
  refine wpQuiet_nil ?_
  intro _ hw'
  obtain ⟨p, hw''⟩ := hw'
  subst hw''
  go_wp2
  go_ret
  exact ⟨rfl, HBW.out.trans (below_less p.h HZV.out)⟩
end Go.Proofs.YtbdediacfckpcaaGreatDoor.tre
end
