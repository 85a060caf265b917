/- Texts that the proof leans on, one behind the other. -/
import Derived.Test.YtbdediacfckpcaaGreatDoorBeTre13
import Derived.Test.YtbdediacfckpcaaGreatDoorBeNod1
import Derived.Test.YtbdediacfckpcaaGreatDoorBeTre2
import Derived.SizedLaws

section
/- patternOf, Print, Can of package tree, and awake. -/
set_option linter.unusedVariables false
set_option linter.unusedSimpArgs false
namespace Go.Proofs.YtbdediacfckpcaaGreatDoor.tre
open Go.RowKit nod
open Go.Proofs.YtbdediacfckpcaaGreatDoor.rng (R RV ret_int ret_bool below_drewN info_parts own_below')
open Go.Proofs.YtbdediacfckpcaaGreatDoor.tok (PEnv TX printL)

set_option maxRecDepth 10000 in
set_option maxHeartbeats 4000000 in
theorem string_nil (base g : Nat) (w : World) (c1 : w.cell? ⟨g, 1, none⟩ = some (.slice none 0 0)) :
    Calls Tryz.prog 23 #[.pointer (some ⟨g, 0, none⟩)] w fun e w' => e = .returned (.string ByteArray.empty) ∧ Below base w w' := by
  have c2 : w.drew.cell? ⟨g, 1, none⟩ = some (.slice none 0 0) := c1
  have hSD : (Builtin.unsafeSliceData_ #[48] 58 #[.slice none 0 0]).run Tryz.prog w.drew = .ok (.pointer none) w.drew := Lib.run_unsafeSliceData_nil _ _ _ _ _
  have hUS : (Builtin.unsafeString_ #[58, 3] 9 #[.pointer none, .int .i64 0]).run Tryz.prog w.drew = .ok (.string ByteArray.empty) w.drew := Lib.run_unsafeString_none _ _ _ _ _
  generalize ByteArray.empty = X at *
  go_enter Tryz.func23, Tryz.ntmps23
  go_wp2
  go_region
  all_goals (try go_wp2; go_ret; exact ⟨rfl, Below.drew (Below.refl base w)⟩)
set_option maxRecDepth 10000 in
set_option maxHeartbeats 4000000 in
theorem string_cap (base g gb cap : Nat) (w : World) (c1 : w.cell? ⟨g, 1, none⟩ = some (.slice (some ⟨gb, 0, none⟩) 0 cap)) (p : Option Addr) (hSD : (Builtin.unsafeSliceData_ #[48] 58 #[.slice (some ⟨gb, 0, none⟩) 0 cap]).run Tryz.prog w.drew = .ok (.pointer p) w.drew) :
    Calls Tryz.prog 23 #[.pointer (some ⟨g, 0, none⟩)] w fun e w' => e = .returned (.string ByteArray.empty) ∧ Below base w w' := by
  have c2 : w.drew.cell? ⟨g, 1, none⟩ = some (.slice (some ⟨gb, 0, none⟩) 0 cap) := c1
  have hUS : (Builtin.unsafeString_ #[58, 3] 9 #[.pointer p, .int .i64 0]).run Tryz.prog w.drew = .ok (.string ByteArray.empty) w.drew := Lib.run_unsafeString_none _ _ _ _ _
  generalize ByteArray.empty = X at *
  go_enter Tryz.func23, Tryz.ntmps23
  go_wp2
  go_region
  all_goals (try go_wp2; go_ret; exact ⟨rfl, Below.drew (Below.refl base w)⟩)
set_option maxRecDepth 10000 in
set_option maxHeartbeats 4000000 in
theorem string_zero (base g gb : Nat) (w V : World) (c1 : w.cell? ⟨g, 1, none⟩ = some (.slice (some ⟨gb, 0, none⟩) 0 0)) (p : Option Addr) (hSD : (Builtin.unsafeSliceData_ #[48] 58 #[.slice (some ⟨gb, 0, none⟩) 0 0]).run Tryz.prog w.drew = .ok (.pointer p) V) (hV : V.cell? ⟨g, 1, none⟩ = some (.slice (some ⟨gb, 0, none⟩) 0 0)) (hb : Below base w V) :
    Calls Tryz.prog 23 #[.pointer (some ⟨g, 0, none⟩)] w fun e w' => e = .returned (.string ByteArray.empty) ∧ Below base w w' := by
  have c2 : w.drew.cell? ⟨g, 1, none⟩ = some (.slice (some ⟨gb, 0, none⟩) 0 0) := c1
  have hUS : (Builtin.unsafeString_ #[58, 3] 9 #[.pointer p, .int .i64 0]).run Tryz.prog V = .ok (.string ByteArray.empty) V := Lib.run_unsafeString_none _ _ _ _ _
  generalize ByteArray.empty = X at *
  have HB : Hid (Below base w V) := hb
  clear hb
  go_enter Tryz.func23, Tryz.ntmps23
  go_wp2
  go_region
  all_goals (try go_wp2; go_ret; exact ⟨rfl, HB.out⟩)
theorem str_any (base g : Nat) (s : Wr) (w : World) (h : WrAt w base g s) : Calls Tryz.prog 23 #[.pointer (some ⟨g, 0, none⟩)] w fun e w' => e = .returned (.string ⟨s.text.toArray⟩) ∧ Below base w w' := by
  by_cases h0 : s.text = []
  · obtain ⟨hB, p, v, nv, hbk, _, hown, _⟩ := h
    rw [h0]
    have c1 : w.cell? ⟨g, 1, none⟩ = some v := by rw [Lib.cell_of_heap hbk]; rfl
    rcases hown.2 with ⟨rfl, _⟩ | ⟨gb, cap, cur, rfl, _, hg, _, _, hcs, _⟩
    · exact string_nil base g w c1
    · have hl : s.text.length = 0 := by rw [h0]; rfl
      rw [hl] at c1
      by_cases hc : cap = 0
      · subst hc
        have hsh : w.drew.shape? gb = some (5, cur.size) := by have hg' : w.drew.heap[gb]? = some (.cells cur 5 (0, 0)) := hg; simp [World.shape?, hg']
        have bA : Below w.heap.size w (w.drew.alloc (.view ⟨gb, 0, none⟩ 5)) := (Below.drew (Below.refl _ w)).alloc (Nat.le_refl _) _
        have hgl : g < w.heap.size := (Array.getElem?_eq_some_iff.1 hbk).1
        exact string_zero base g gb w _ c1 _ (Lib.run_unsafeSliceData_zero w.drew _ _ _ Tryz.underlying58 ⟨gb, 0, none⟩ 0 (5, cur.size) hsh) ((bA.cell (p := ⟨g, 1, none⟩) hgl).trans c1) (below_less bA (by omega))
      · exact string_cap base g gb cap w c1 _ (Lib.run_unsafeSliceData_row _ _ _ _ _ _ hc)
  · exact string_any base g s w h h0
/-- A pattern as a text; none is empty. -/
def patB (o : Option (List UInt8)) : ByteArray := match o with | some l => ⟨l.toArray⟩ | none => ByteArray.empty
set_option maxRecDepth 10000 in
set_option maxHeartbeats 4000000 in
theorem pattern_any {W : World} {v : Value} {t : Nd} (N : Nat) (hN : t.sz ≤ N) (hs : shortN t) (E : PEnv W) (hw : Pw W) (hv : NV W.heap.size W t v) :
    Calls Tryz.prog 18 #[v] W fun e w' => e = .returned (.tuple #[.string (patB (patO N t)), .bool (patO N t).isSome]) ∧ Below W.heap.size W w' := by
  have hB : ConP 22 (bodyO (partO N)) t := by
    obtain ⟨k', m', a', b', g', n', s', kk⟩ := t
    rw [Nd.sz] at hN
    rw [shortN] at hs
    refine con_body (fun y hy => ?_) (fun y hy z hzz => ?_)
    · have : y.sz ≤ szL kk := szL_mem hy
      exact con_part N y (by omega) (short_mem hs.2 hy)
    · have h1 : y.sz ≤ szL kk := szL_mem hy
      have h2 := short_mem hs.2 hy
      obtain ⟨k2, m2, a2, b2, g2, n2, s2, kk2⟩ := y
      rw [Nd.sz] at h1
      rw [shortN] at h2
      have h3 : z.sz ≤ szL kk2 := szL_mem hzz
      exact con_part N z (by omega) (short_mem h2.2 hzz)
  have hv0 := hv
  unfold patO
  obtain ⟨k, m, a, b, ng, n, st, ks, sa, sc, ao, cap, rfl, rfl, _⟩ := hv.open
  generalize st.length = sl at *
  generalize ks.length = nk at *
  generalize Nd.mk k m a b ng n st ks = T at *
  have HB : Hid (Below W.heap.size W ((W.alloc (.cells #[.int .i64 k, .int .i64 m, .int .i64 a, .int .i64 b, .bool ng, .string n, .slice sa sl sc, .slice ao nk cap] 25)).alloc (.cells #[.pointer none, .slice none 0 0, .int .i64 2000, .int .i64 0, .int .i64 0, .slice none 0 0] 52))) := below2 _ _ _
  have HC : Cx W ((W.alloc (.cells #[.int .i64 k, .int .i64 m, .int .i64 a, .int .i64 b, .bool ng, .string n, .slice sa sl sc, .slice ao nk cap] 25)).alloc (.cells #[.pointer none, .slice none 0 0, .int .i64 2000, .int .i64 0, .int .i64 0, .slice none 0 0] 52)) W.heap.size (W.heap.size + 1) w00 := ⟨⟨E, rfl, HB.out, ⟨by omega, .pointer none, .slice none 0 0, .slice none 0 0, bk2, .inl rfl, World.ownsRow_nil _ _ _ _, World.ownsRow_nil _ _ _ _⟩, by decide, by decide⟩, gd00⟩
  have CB := hB W _ _ _ _ _ hw HC hv0
  have CS : Hid (∀ W' s, Cx W W' W.heap.size (W.heap.size + 1) s → Calls Tryz.prog 23 #[.pointer (some ⟨W.heap.size + 1, 0, none⟩)] W' fun e w' => e = .returned (.string ⟨s.text.toArray⟩) ∧ Below W.heap.size W w') := fun W' s c => (str_any _ _ s W' c.c.wr).mono fun e w' ⟨h1, h2⟩ => ⟨h1, c.c.bel.trans h2⟩
  cases hP : bodyO (partO N) w00 T with
  | none =>
    have C := CB.no hP
    clear CB hB HC E hw hv hv0 hP CS
    go_enter Tryz.func18, Tryz.ntmps18
    go_wp2_with (go_at_call 22; refine C.mono ?_; rintro e w1 ⟨rfl, d⟩; have HK : Hid (Kt W.heap.size _ w1) := d; clear d)
    go_ret2
    exact ⟨rfl, HB.out.trans HK.out.below⟩
  | some s' =>
    have C := CB.ok hP
    have CS2 : Hid (∀ W', Cx W W' W.heap.size (W.heap.size + 1) s' → Calls Tryz.prog 23 #[.pointer (some ⟨W.heap.size + 1, 0, none⟩)] W' fun e w' => e = .returned (.string ⟨s'.text.toArray⟩) ∧ Below W.heap.size W w') := fun W' c => CS.out W' s' c
    show Calls Tryz.prog 18 _ W fun e w' => e = .returned (.tuple #[.string ⟨s'.text.toArray⟩, .bool true]) ∧ Below W.heap.size W w'
    generalize (⟨s'.text.toArray⟩ : ByteArray) = X at *
    clear CB hB HC E hw hv hv0 hP CS
    go_enter Tryz.func18, Tryz.ntmps18
    go_wp2_with (first
      | (go_at_call 22; refine C.mono ?_; rintro e w1 ⟨rfl, d, d'⟩; have HR : Hid (Cx W w1 W.heap.size (W.heap.size + 1) s') := d; clear d d')
      | (go_at_call 23; refine (CS2.out _ HR.out).mono ?_; rintro e w2 ⟨rfl, d⟩; have HF : Hid (Below W.heap.size W w2) := d; clear d))
    go_ret2
    exact ⟨rfl, HF.out⟩
set_option maxRecDepth 10000 in
set_option maxHeartbeats 4000000 in
theorem tprint_any {W : World} {v : Value} {t : Nd} (N : Nat) (hN : t.sz ≤ N) (hs : shortN t) (E : PEnv W) (hw : Pw W) (hv : NV W.heap.size W t v) :
    Calls Tryz.prog 10 #[v] W fun e w' => e = .returned (.tuple #[.string (patB (patO N t)), .int .i64 (if (patO N t).isSome then 0 else 1)]) ∧ Below W.heap.size W w' := by
  obtain ⟨k, m, a, b, ng, n, st, ks, sa, sc, ao, cap, rfl, rfl, _⟩ := hv.open
  generalize st.length = sl at *
  generalize ks.length = nk at *
  generalize Nd.mk k m a b ng n st ks = T at *
  have HB : Hid (Below W.heap.size W (W.alloc (.cells #[.int .i64 k, .int .i64 m, .int .i64 a, .int .i64 b, .bool ng, .string n, .slice sa sl sc, .slice ao nk cap] 25))) := (Below.refl _ W).alloc (Nat.le_refl _) _
  have CP := pattern_any N hN hs (E.below HB.out) (hw.on HB.out) ((hv.keep HB.out).wide HB.out.size)
  cases hP : patO N T with
  | none =>
    rw [hP] at CP
    have CP : Calls Tryz.prog 18 _ _ fun e w' => e = .returned (.tuple #[.string ByteArray.empty, .bool false]) ∧ _ := CP
    clear hv E hw hP
    show Calls Tryz.prog 10 _ W fun e w' => e = .returned (.tuple #[.string ByteArray.empty, .int .i64 1]) ∧ Below W.heap.size W w'
    go_enter Tryz.func10, Tryz.ntmps10
    go_wp2_with (go_at_call 18; refine CP.mono ?_; rintro e w1 ⟨rfl, d⟩; have HF : Hid (Below W.heap.size W w1) := HB.out.trans (below_less d (by simp)); clear d)
    go_ret2
    exact ⟨rfl, HF.out⟩
  | some l =>
    rw [hP] at CP
    have CP : Calls Tryz.prog 18 _ _ fun e w' => e = .returned (.tuple #[.string ⟨l.toArray⟩, .bool true]) ∧ _ := CP
    clear hv E hw hP
    show Calls Tryz.prog 10 _ W fun e w' => e = .returned (.tuple #[.string ⟨l.toArray⟩, .int .i64 0]) ∧ Below W.heap.size W w'
    generalize (⟨l.toArray⟩ : ByteArray) = X at *
    go_enter Tryz.func10, Tryz.ntmps10
    go_wp2_with (go_at_call 18; refine CP.mono ?_; rintro e w1 ⟨rfl, d⟩; have HF : Hid (Below W.heap.size W w1) := HB.out.trans (below_less d (by simp)); clear d)
    go_ret2
    exact ⟨rfl, HF.out⟩
set_option maxRecDepth 10000 in
set_option maxHeartbeats 4000000 in
theorem can_any {W : World} {v : Value} {t : Nd} (N : Nat) (hN : t.sz ≤ N) (hs : shortN t) (E : PEnv W) (hw : Pw W) (hv : NV W.heap.size W t v) :
    Calls Tryz.prog 12 #[v] W fun e w' => e = .returned (.bool (patO N t).isSome) ∧ Below W.heap.size W w' := by
  obtain ⟨k, m, a, b, ng, n, st, ks, sa, sc, ao, cap, rfl, rfl, _⟩ := hv.open
  generalize st.length = sl at *
  generalize ks.length = nk at *
  generalize Nd.mk k m a b ng n st ks = T at *
  have HB : Hid (Below W.heap.size W (W.alloc (.cells #[.int .i64 k, .int .i64 m, .int .i64 a, .int .i64 b, .bool ng, .string n, .slice sa sl sc, .slice ao nk cap] 25))) := (Below.refl _ W).alloc (Nat.le_refl _) _
  have CP := pattern_any N hN hs (E.below HB.out) (hw.on HB.out) ((hv.keep HB.out).wide HB.out.size)
  cases hP : patO N T with
  | none =>
    rw [hP] at CP
    have CP : Calls Tryz.prog 18 _ _ fun e w' => e = .returned (.tuple #[.string ByteArray.empty, .bool false]) ∧ _ := CP
    clear hv E hw hP
    show Calls Tryz.prog 12 _ W fun e w' => e = .returned (.bool false) ∧ Below W.heap.size W w'
    go_enter Tryz.func12, Tryz.ntmps12
    go_wp2_with (go_at_call 18; refine CP.mono ?_; rintro e w1 ⟨rfl, d⟩; have HF : Hid (Below W.heap.size W w1) := HB.out.trans (below_less d (by simp)); clear d)
    go_ret
    exact ⟨rfl, HF.out⟩
  | some l =>
    rw [hP] at CP
    have CP : Calls Tryz.prog 18 _ _ fun e w' => e = .returned (.tuple #[.string ⟨l.toArray⟩, .bool true]) ∧ _ := CP
    clear hv E hw hP
    show Calls Tryz.prog 12 _ W fun e w' => e = .returned (.bool true) ∧ Below W.heap.size W w'
    generalize (⟨l.toArray⟩ : ByteArray) = X at *
    go_enter Tryz.func12, Tryz.ntmps12
    go_wp2_with (go_at_call 18; refine CP.mono ?_; rintro e w1 ⟨rfl, d⟩; have HF : Hid (Below W.heap.size W w1) := HB.out.trans (below_less d (by simp)); clear d)
    go_ret
    exact ⟨rfl, HF.out⟩
def ndDot : Nd := .mk 2 0 0 0 false ByteArray.empty [] []
def ndChr : Nd := .mk 1 0 97 0 false ByteArray.empty [] []
def ndRep : Nd := .mk 8 0 1 (-1) false ByteArray.empty [] [ndDot]
def ndAwk : Nd := .mk 6 0 0 0 false ByteArray.empty [] [ndChr, ndRep]
theorem awk_pat : patO 4 ndAwk = some [97, 46, 43] := by decide +kernel
theorem awk_sz : ndAwk.sz ≤ 4 := by decide +kernel
theorem awk_short : shortN ndAwk := by
  have e : ByteArray.empty.size ≤ 140737488355327 := by decide
  simp only [ndAwk, ndChr, ndRep, ndDot, shortN, shortL]
  exact ⟨e, ⟨e, trivial⟩, ⟨e, ⟨e, trivial⟩, trivial⟩, trivial⟩
theorem xa_is : (⟨#[97, 46, 43]⟩ : ByteArray).toList = [97, 46, 43] := by rw [Lib.toList_data]
set_option maxRecDepth 10000 in
set_option maxHeartbeats 4000000 in
theorem awk_any (w : World) (E : PEnv w) (hw : Pw w) : Calls Tryz.prog 8 #[] w fun e w' => e = .returned (.bool true) ∧ Below w.heap.size w w' := by
  have HB : Hid (Below w.heap.size w ((w.alloc (.cells #[.int .i64 2, .int .i64 0, .int .i64 0, .int .i64 0, .bool false, .string ByteArray.empty, .slice none 0 0, .slice none 0 0] 25)).alloc (.cells #[.int .i64 1, .int .i64 0, .int .i64 97, .int .i64 0, .bool false, .string ByteArray.empty, .slice none 0 0, .slice none 0 0, .int .i64 8, .int .i64 0, .int .i64 1, .int .i64 (-1), .bool false, .string ByteArray.empty, .slice none 0 0, .slice (some ⟨w.heap.size, 0, none⟩) 1 1] 25))) := below2 _ _ _
  have i0 : ∀ x : Int, -100 ≤ x → x ≤ 100 → I64 x := fun x h1 h2 => by unfold I64; omega
  have e0 : ByteArray.empty.size ≤ maxLen := by decide
  have h1 : NV w.heap.size w ndDot (.agg #[.int .i64 2, .int .i64 0, .int .i64 0, .int .i64 0, .bool false, .string ByteArray.empty, .slice none 0 0, .slice none 0 0]) := nv_leaf _ _ 2 0 0 0 false ByteArray.empty (i0 _ (by omega) (by omega)) (i0 _ (by omega) (by omega)) (i0 _ (by omega) (by omega)) (i0 _ (by omega) (by omega)) e0
  have k1 := kv_one 25 h1 (Nat.le_refl _)
  have h2 : NV (w.heap.size + 1) (w.alloc (.cells #[.int .i64 2, .int .i64 0, .int .i64 0, .int .i64 0, .bool false, .string ByteArray.empty, .slice none 0 0, .slice none 0 0] 25)) ndRep (.agg #[.int .i64 8, .int .i64 0, .int .i64 1, .int .i64 (-1), .bool false, .string ByteArray.empty, .slice none 0 0, .slice (some ⟨w.heap.size, 0, none⟩) 1 1]) := NV.shut (s := []) (ks := [ndDot]) (cap := 1) ⟨i0 _ (by omega) (by omega), i0 _ (by omega) (by omega), i0 _ (by omega) (by omega), i0 _ (by omega) (by omega)⟩ e0 ⟨.inl rfl, fun x e => (by cases e), by simp, by simp, fun _ => rfl⟩ ⟨by simp, by decide, fun e => (by cases e)⟩ k1
  have h3 : NV (w.heap.size + 1) (w.alloc (.cells #[.int .i64 2, .int .i64 0, .int .i64 0, .int .i64 0, .bool false, .string ByteArray.empty, .slice none 0 0, .slice none 0 0] 25)) ndChr (.agg #[.int .i64 1, .int .i64 0, .int .i64 97, .int .i64 0, .bool false, .string ByteArray.empty, .slice none 0 0, .slice none 0 0]) := nv_leaf _ _ 1 0 97 0 false ByteArray.empty (i0 _ (by omega) (by omega)) (i0 _ (by omega) (by omega)) (i0 _ (by omega) (by omega)) (i0 _ (by omega) (by omega)) e0
  have k2 := kv_two 25 h3 h2 (by simp)
  have sz1 : (w.alloc (.cells #[.int .i64 2, .int .i64 0, .int .i64 0, .int .i64 0, .bool false, .string ByteArray.empty, .slice none 0 0, .slice none 0 0] 25)).heap.size = w.heap.size + 1 := by simp
  rw [sz1] at k2
  have h4 : NV (w.heap.size + 1 + 1) ((w.alloc (.cells #[.int .i64 2, .int .i64 0, .int .i64 0, .int .i64 0, .bool false, .string ByteArray.empty, .slice none 0 0, .slice none 0 0] 25)).alloc (.cells #[.int .i64 1, .int .i64 0, .int .i64 97, .int .i64 0, .bool false, .string ByteArray.empty, .slice none 0 0, .slice none 0 0, .int .i64 8, .int .i64 0, .int .i64 1, .int .i64 (-1), .bool false, .string ByteArray.empty, .slice none 0 0, .slice (some ⟨w.heap.size, 0, none⟩) 1 1] 25)) ndAwk (.agg #[.int .i64 6, .int .i64 0, .int .i64 0, .int .i64 0, .bool false, .string ByteArray.empty, .slice none 0 0, .slice (some ⟨w.heap.size + 1, 0, none⟩) 2 2]) := NV.shut (s := []) (ks := [ndChr, ndRep]) (cap := 2) ⟨i0 _ (by omega) (by omega), i0 _ (by omega) (by omega), i0 _ (by omega) (by omega), i0 _ (by omega) (by omega)⟩ e0 ⟨.inl rfl, fun x e => (by cases e), by simp, by simp, fun _ => rfl⟩ ⟨by simp, by decide, fun e => (by cases e)⟩ k2
  have sz2 : ((w.alloc (.cells #[.int .i64 2, .int .i64 0, .int .i64 0, .int .i64 0, .bool false, .string ByteArray.empty, .slice none 0 0, .slice none 0 0] 25)).alloc (.cells #[.int .i64 1, .int .i64 0, .int .i64 97, .int .i64 0, .bool false, .string ByteArray.empty, .slice none 0 0, .slice none 0 0, .int .i64 8, .int .i64 0, .int .i64 1, .int .i64 (-1), .bool false, .string ByteArray.empty, .slice none 0 0, .slice (some ⟨w.heap.size, 0, none⟩) 1 1] 25)).heap.size = w.heap.size + 1 + 1 := by simp
  have C := tprint_any 4 awk_sz awk_short (E.below HB.out) (hw.on HB.out) (sz2 ▸ h4)
  rw [awk_pat] at C
  have C : Calls Tryz.prog 10 _ _ fun e w' => e = .returned (.tuple #[.string ⟨#[97, 46, 43]⟩, .int .i64 0]) ∧ _ := C
  have hx := xa_is
  generalize (⟨#[97, 46, 43]⟩ : ByteArray) = X at *
  clear h1 h2 h3 h4 k1 k2 sz1 sz2 E hw i0 e0
  go_enter Tryz.func8, Tryz.ntmps8
  go_wp2_with (go_at_call 10; refine C.mono ?_; rintro e w1 ⟨rfl, d⟩; have HF : Hid (Below w.heap.size w w1) := HB.out.trans (below_less d (by simp; omega)); clear d)
  go_ret
  exact ⟨rfl, HF.out⟩
end Go.Proofs.YtbdediacfckpcaaGreatDoor.tre
end

section
/- TreeBounds, walked. -/
set_option linter.unusedVariables false
set_option linter.unusedSimpArgs false
namespace Go.Proofs.YtbdediacfckpcaaGreatDoor.tre
open Go.RowKit nod
open Go.Proofs.YtbdediacfckpcaaGreatDoor.rng (R RV ret_int ret_bool below_drewN info_parts own_below')
open Go.Proofs.YtbdediacfckpcaaGreatDoor.tok (PEnv TX printL)

/-- From w on nothing has changed, and the node that came in lies behind it. -/
def Qn (w : World) (box : Array Value) (w' : World) : Prop := Below w.heap.size w w' ∧ Bk w' w.heap.size box 25
theorem Qn.on {w w' w'' : World} {box : Array Value} (q : Qn w box w') (d : Below w'.heap.size w' w'') : Qn w box w'' := ⟨q.1.trans (below_less d q.1.size), q.2.on d⟩
theorem Qn.of {P : Program} {f : FuncId} {args : Array Value} {v : Value} {w w' : World} {box : Array Value} (q : Qn w box w') (h : Calls P f args w' fun e w'' => e = .returned v ∧ Below w'.heap.size w' w'') : Calls P f args w' fun e w'' => e = .returned v ∧ Qn w box w'' := h.mono fun e w'' ⟨h1, h2⟩ => ⟨h1, q.on h2⟩
set_option maxRecDepth 10000 in
set_option maxHeartbeats 4000000 in
theorem bounds_walk (v : Value) (t : Nd) (w : World) (hv : NV w.heap.size w t v) (hs : shortN t) (E : PEnv w) (hw : Pw w) :
    Calls Tryz.prog 5 #[v] w fun e w' => e = .returned (.bool true) ∧ Below w.heap.size w w' := by
  obtain ⟨k, m, a, b, ng, n, st, ks, sa, sc, ao, cap, rfl, rfl, _⟩ := hv.open
  generalize st.length = sl at *
  generalize ks.length = nk at *
  generalize Nd.mk k m a b ng n st ks = T at *
  have HS : Hid (Qn w #[.int .i64 k, .int .i64 m, .int .i64 a, .int .i64 b, .bool ng, .string n, .slice sa sl sc, .slice ao nk cap] (w.alloc (.cells #[.int .i64 k, .int .i64 m, .int .i64 a, .int .i64 b, .bool ng, .string n, .slice sa sl sc, .slice ao nk cap] 25))) := ⟨(Below.refl _ w).alloc (Nat.le_refl _) _, Bk.new w _ _⟩
  have HV : Hid (∀ W, Qn w #[.int .i64 k, .int .i64 m, .int .i64 a, .int .i64 b, .bool ng, .string n, .slice sa sl sc, .slice ao nk cap] W → NV W.heap.size W T (.agg #[.int .i64 k, .int .i64 m, .int .i64 a, .int .i64 b, .bool ng, .string n, .slice sa sl sc, .slice ao nk cap])) := fun W h => (hv.keep h.1).wide h.1.size
  obtain ⟨q, hq⟩ : ∃ q, (!(fewN T 3000 300).2) = q := ⟨_, rfl⟩
  have CD : Hid (∀ W, Qn w #[.int .i64 k, .int .i64 m, .int .i64 a, .int .i64 b, .bool ng, .string n, .slice sa sl sc, .slice ao nk cap] W → Calls Tryz.prog 7 #[.agg #[.int .i64 k, .int .i64 m, .int .i64 a, .int .i64 b, .bool ng, .string n, .slice sa sl sc, .slice ao nk cap], .int .i64 3000, .int .i64 300] W fun e w' => e = .returned (.bool q) ∧ Qn w #[.int .i64 k, .int .i64 m, .int .i64 a, .int .i64 b, .bool ng, .string n, .slice sa sl sc, .slice ao nk cap] w') := fun W h => hq ▸ h.of (deep_any T _ 3000 300 W (HV.out W h) (by omega) (by omega) (by omega) (by omega))
  have CA : Hid (∀ W, Qn w #[.int .i64 k, .int .i64 m, .int .i64 a, .int .i64 b, .bool ng, .string n, .slice sa sl sc, .slice ao nk cap] W → Calls Tryz.prog 8 #[] W fun e w' => e = .returned (.bool true) ∧ Qn w #[.int .i64 k, .int .i64 m, .int .i64 a, .int .i64 b, .bool ng, .string n, .slice sa sl sc, .slice ao nk cap] w') := fun W h => h.of (awk_any W (E.below h.1) (hw.on h.1))
  cases q with
  | true =>
    clear hv hq E hw HV
    go_enter Tryz.func5, Tryz.ntmps5
    go_wp2_with (first
      | (go_at_call 7; refine (CD.out _ HS.out).mono ?_; rintro e w1 ⟨rfl, d⟩; have HS1 : Hid (Qn w #[.int .i64 k, .int .i64 m, .int .i64 a, .int .i64 b, .bool ng, .string n, .slice sa sl sc, .slice ao nk cap] w1) := d; have x0 := (d.2).cell 0 (u := .int .i64 k) rfl; have x1 := (d.2).cell 1 (u := .int .i64 m) rfl; have x2 := (d.2).cell 2 (u := .int .i64 a) rfl; have x3 := (d.2).cell 3 (u := .int .i64 b) rfl; have x4 := (d.2).cell 4 (u := .bool ng) rfl; have x5 := (d.2).cell 5 (u := .string n) rfl; have x6 := (d.2).cell 6 (u := .slice sa sl sc) rfl; have x7 := (d.2).cell 7 (u := .slice ao nk cap) rfl; clear d)
      | (go_at_call 8; refine (CA.out _ HS1.out).mono ?_; rintro e w9 ⟨rfl, d⟩; have HF : Hid (Qn w #[.int .i64 k, .int .i64 m, .int .i64 a, .int .i64 b, .bool ng, .string n, .slice sa sl sc, .slice ao nk cap] w9) := d; clear d))
    go_ret
    exact ⟨rfl, HF.out.1⟩
  | false =>
  have hsz : T.sz ≤ 3000 := by have := deep_facts (t := T) (nodes := 3000) (depth := 300) (by simpa using hq); omega
  have CP : Hid (∀ W, Qn w #[.int .i64 k, .int .i64 m, .int .i64 a, .int .i64 b, .bool ng, .string n, .slice sa sl sc, .slice ao nk cap] W → Calls Tryz.prog 10 #[.agg #[.int .i64 k, .int .i64 m, .int .i64 a, .int .i64 b, .bool ng, .string n, .slice sa sl sc, .slice ao nk cap]] W fun e w' => e = .returned (.tuple #[.string (patB (patO 3000 T)), .int .i64 (if (patO 3000 T).isSome then 0 else 1)]) ∧ Qn w #[.int .i64 k, .int .i64 m, .int .i64 a, .int .i64 b, .bool ng, .string n, .slice sa sl sc, .slice ao nk cap] w') := fun W h => h.of (tprint_any 3000 hsz hs (E.below h.1) (hw.on h.1) (HV.out W h))
  have CC : Hid (∀ W, Qn w #[.int .i64 k, .int .i64 m, .int .i64 a, .int .i64 b, .bool ng, .string n, .slice sa sl sc, .slice ao nk cap] W → Calls Tryz.prog 12 #[.agg #[.int .i64 k, .int .i64 m, .int .i64 a, .int .i64 b, .bool ng, .string n, .slice sa sl sc, .slice ao nk cap]] W fun e w' => e = .returned (.bool (patO 3000 T).isSome) ∧ Qn w #[.int .i64 k, .int .i64 m, .int .i64 a, .int .i64 b, .bool ng, .string n, .slice sa sl sc, .slice ao nk cap] w') := fun W h => h.of (can_any 3000 hsz hs (E.below h.1) (hw.on h.1) (HV.out W h))
  cases hP : patO 3000 T with
  | none =>
    rw [hP] at CP CC
    have CP : Hid (∀ W, Qn w #[.int .i64 k, .int .i64 m, .int .i64 a, .int .i64 b, .bool ng, .string n, .slice sa sl sc, .slice ao nk cap] W → Calls Tryz.prog 10 #[.agg #[.int .i64 k, .int .i64 m, .int .i64 a, .int .i64 b, .bool ng, .string n, .slice sa sl sc, .slice ao nk cap]] W fun e w' => e = .returned (.tuple #[.string ByteArray.empty, .int .i64 1]) ∧ Qn w #[.int .i64 k, .int .i64 m, .int .i64 a, .int .i64 b, .bool ng, .string n, .slice sa sl sc, .slice ao nk cap] w') := CP
    have CC : Hid (∀ W, Qn w #[.int .i64 k, .int .i64 m, .int .i64 a, .int .i64 b, .bool ng, .string n, .slice sa sl sc, .slice ao nk cap] W → Calls Tryz.prog 12 #[.agg #[.int .i64 k, .int .i64 m, .int .i64 a, .int .i64 b, .bool ng, .string n, .slice sa sl sc, .slice ao nk cap]] W fun e w' => e = .returned (.bool false) ∧ Qn w #[.int .i64 k, .int .i64 m, .int .i64 a, .int .i64 b, .bool ng, .string n, .slice sa sl sc, .slice ao nk cap] w') := CC
    have z : ByteArray.empty.toList.isEmpty = true := by decide +kernel
    clear hv hq E hw HV hP hsz hs
    go_enter Tryz.func5, Tryz.ntmps5
    go_wp2_with (first
      | (go_at_call 7; refine (CD.out _ HS.out).mono ?_; rintro e w1 ⟨rfl, d⟩; have HS1 : Hid (Qn w #[.int .i64 k, .int .i64 m, .int .i64 a, .int .i64 b, .bool ng, .string n, .slice sa sl sc, .slice ao nk cap] w1) := d; have x0 := (d.2).cell 0 (u := .int .i64 k) rfl; have x1 := (d.2).cell 1 (u := .int .i64 m) rfl; have x2 := (d.2).cell 2 (u := .int .i64 a) rfl; have x3 := (d.2).cell 3 (u := .int .i64 b) rfl; have x4 := (d.2).cell 4 (u := .bool ng) rfl; have x5 := (d.2).cell 5 (u := .string n) rfl; have x6 := (d.2).cell 6 (u := .slice sa sl sc) rfl; have x7 := (d.2).cell 7 (u := .slice ao nk cap) rfl; clear d)
      | (go_at_call 10; refine (CP.out _ HS1.out).mono ?_; rintro e w2 ⟨rfl, d⟩; have HS2 : Hid (Qn w #[.int .i64 k, .int .i64 m, .int .i64 a, .int .i64 b, .bool ng, .string n, .slice sa sl sc, .slice ao nk cap] w2) := d; have x0 := (d.2).cell 0 (u := .int .i64 k) rfl; have x1 := (d.2).cell 1 (u := .int .i64 m) rfl; have x2 := (d.2).cell 2 (u := .int .i64 a) rfl; have x3 := (d.2).cell 3 (u := .int .i64 b) rfl; have x4 := (d.2).cell 4 (u := .bool ng) rfl; have x5 := (d.2).cell 5 (u := .string n) rfl; have x6 := (d.2).cell 6 (u := .slice sa sl sc) rfl; have x7 := (d.2).cell 7 (u := .slice ao nk cap) rfl; clear d)
      | (go_at_call 12; refine (CC.out _ HS2.out).mono ?_; rintro e w3 ⟨rfl, d⟩; have HS3 : Hid (Qn w #[.int .i64 k, .int .i64 m, .int .i64 a, .int .i64 b, .bool ng, .string n, .slice sa sl sc, .slice ao nk cap] w3) := d; have x0 := (d.2).cell 0 (u := .int .i64 k) rfl; have x1 := (d.2).cell 1 (u := .int .i64 m) rfl; have x2 := (d.2).cell 2 (u := .int .i64 a) rfl; have x3 := (d.2).cell 3 (u := .int .i64 b) rfl; have x4 := (d.2).cell 4 (u := .bool ng) rfl; have x5 := (d.2).cell 5 (u := .string n) rfl; have x6 := (d.2).cell 6 (u := .slice sa sl sc) rfl; have x7 := (d.2).cell 7 (u := .slice ao nk cap) rfl; clear d)
      | (go_at_call 8; refine (CA.out _ HS3.out).mono ?_; rintro e w9 ⟨rfl, d⟩; have HF : Hid (Qn w #[.int .i64 k, .int .i64 m, .int .i64 a, .int .i64 b, .bool ng, .string n, .slice sa sl sc, .slice ao nk cap] w9) := d; clear d))
    go_ret
    exact ⟨rfl, HF.out.1⟩
  | some l =>
    obtain ⟨b1, b2, b3⟩ := pat_bounds hP
    rw [hP] at CP CC
    have CP : Hid (∀ W, Qn w #[.int .i64 k, .int .i64 m, .int .i64 a, .int .i64 b, .bool ng, .string n, .slice sa sl sc, .slice ao nk cap] W → Calls Tryz.prog 10 #[.agg #[.int .i64 k, .int .i64 m, .int .i64 a, .int .i64 b, .bool ng, .string n, .slice sa sl sc, .slice ao nk cap]] W fun e w' => e = .returned (.tuple #[.string ⟨l.toArray⟩, .int .i64 0]) ∧ Qn w #[.int .i64 k, .int .i64 m, .int .i64 a, .int .i64 b, .bool ng, .string n, .slice sa sl sc, .slice ao nk cap] w') := CP
    have CC : Hid (∀ W, Qn w #[.int .i64 k, .int .i64 m, .int .i64 a, .int .i64 b, .bool ng, .string n, .slice sa sl sc, .slice ao nk cap] W → Calls Tryz.prog 12 #[.agg #[.int .i64 k, .int .i64 m, .int .i64 a, .int .i64 b, .bool ng, .string n, .slice sa sl sc, .slice ao nk cap]] W fun e w' => e = .returned (.bool true) ∧ Qn w #[.int .i64 k, .int .i64 m, .int .i64 a, .int .i64 b, .bool ng, .string n, .slice sa sl sc, .slice ao nk cap] w') := CC
    have hl : (⟨l.toArray⟩ : ByteArray).size ≤ 2000 := by show l.toArray.size ≤ 2000; simpa using b1
    generalize (⟨l.toArray⟩ : ByteArray) = X at *
    have CG : Hid (∀ W, Qn w #[.int .i64 k, .int .i64 m, .int .i64 a, .int .i64 b, .bool ng, .string n, .slice sa sl sc, .slice ao nk cap] W → Calls Tryz.prog 15 #[.agg #[.int .i64 k, .int .i64 m, .int .i64 a, .int .i64 b, .bool ng, .string n, .slice sa sl sc, .slice ao nk cap]] W fun e w' => e = .returned (.int .i64 (grpN T)) ∧ Qn w #[.int .i64 k, .int .i64 m, .int .i64 a, .int .i64 b, .bool ng, .string n, .slice sa sl sc, .slice ao nk cap] w') := fun W h => h.of (groups_any _ T _ W (Nat.le_refl _) (by omega) (HV.out W h))
    have CE : Hid (∀ W, Qn w #[.int .i64 k, .int .i64 m, .int .i64 a, .int .i64 b, .bool ng, .string n, .slice sa sl sc, .slice ao nk cap] W → Calls Tryz.prog 16 #[.agg #[.int .i64 k, .int .i64 m, .int .i64 a, .int .i64 b, .bool ng, .string n, .slice sa sl sc, .slice ao nk cap]] W fun e w' => e = .returned (.int .i64 (depN T)) ∧ Qn w #[.int .i64 k, .int .i64 m, .int .i64 a, .int .i64 b, .bool ng, .string n, .slice sa sl sc, .slice ao nk cap] w') := fun W h => h.of (depth_any _ T _ W (Nat.le_refl _) (by omega) (HV.out W h))
    generalize grpN T = G at *
    generalize depN T = DD at *
    have f1 : decide ((X.size : Int) ≤ 2000) = true := decide_eq_true (by omega)
    have f2 : decide (G ≤ 20) = true := decide_eq_true b2
    have f3 : decide (DD ≤ 50) = true := decide_eq_true b3
    clear hv hq E hw HV hP hsz hs b1
    go_enter Tryz.func5, Tryz.ntmps5
    go_wp2_with (first
      | (go_at_call 7; refine (CD.out _ HS.out).mono ?_; rintro e w1 ⟨rfl, d⟩; have HS1 : Hid (Qn w #[.int .i64 k, .int .i64 m, .int .i64 a, .int .i64 b, .bool ng, .string n, .slice sa sl sc, .slice ao nk cap] w1) := d; have x0 := (d.2).cell 0 (u := .int .i64 k) rfl; have x1 := (d.2).cell 1 (u := .int .i64 m) rfl; have x2 := (d.2).cell 2 (u := .int .i64 a) rfl; have x3 := (d.2).cell 3 (u := .int .i64 b) rfl; have x4 := (d.2).cell 4 (u := .bool ng) rfl; have x5 := (d.2).cell 5 (u := .string n) rfl; have x6 := (d.2).cell 6 (u := .slice sa sl sc) rfl; have x7 := (d.2).cell 7 (u := .slice ao nk cap) rfl; clear d)
      | (go_at_call 10; refine (CP.out _ HS1.out).mono ?_; rintro e w2 ⟨rfl, d⟩; have HS2 : Hid (Qn w #[.int .i64 k, .int .i64 m, .int .i64 a, .int .i64 b, .bool ng, .string n, .slice sa sl sc, .slice ao nk cap] w2) := d; have x0 := (d.2).cell 0 (u := .int .i64 k) rfl; have x1 := (d.2).cell 1 (u := .int .i64 m) rfl; have x2 := (d.2).cell 2 (u := .int .i64 a) rfl; have x3 := (d.2).cell 3 (u := .int .i64 b) rfl; have x4 := (d.2).cell 4 (u := .bool ng) rfl; have x5 := (d.2).cell 5 (u := .string n) rfl; have x6 := (d.2).cell 6 (u := .slice sa sl sc) rfl; have x7 := (d.2).cell 7 (u := .slice ao nk cap) rfl; clear d)
      | (go_at_call 12; refine (CC.out _ HS2.out).mono ?_; rintro e w3 ⟨rfl, d⟩; have HS3 : Hid (Qn w #[.int .i64 k, .int .i64 m, .int .i64 a, .int .i64 b, .bool ng, .string n, .slice sa sl sc, .slice ao nk cap] w3) := d; have x0 := (d.2).cell 0 (u := .int .i64 k) rfl; have x1 := (d.2).cell 1 (u := .int .i64 m) rfl; have x2 := (d.2).cell 2 (u := .int .i64 a) rfl; have x3 := (d.2).cell 3 (u := .int .i64 b) rfl; have x4 := (d.2).cell 4 (u := .bool ng) rfl; have x5 := (d.2).cell 5 (u := .string n) rfl; have x6 := (d.2).cell 6 (u := .slice sa sl sc) rfl; have x7 := (d.2).cell 7 (u := .slice ao nk cap) rfl; clear d)
      | (go_at_call 15; refine (CG.out _ HS3.out).mono ?_; rintro e w4 ⟨rfl, d⟩; have HS4 : Hid (Qn w #[.int .i64 k, .int .i64 m, .int .i64 a, .int .i64 b, .bool ng, .string n, .slice sa sl sc, .slice ao nk cap] w4) := d; have x0 := (d.2).cell 0 (u := .int .i64 k) rfl; have x1 := (d.2).cell 1 (u := .int .i64 m) rfl; have x2 := (d.2).cell 2 (u := .int .i64 a) rfl; have x3 := (d.2).cell 3 (u := .int .i64 b) rfl; have x4 := (d.2).cell 4 (u := .bool ng) rfl; have x5 := (d.2).cell 5 (u := .string n) rfl; have x6 := (d.2).cell 6 (u := .slice sa sl sc) rfl; have x7 := (d.2).cell 7 (u := .slice ao nk cap) rfl; clear d)
      | (go_at_call 16; refine (CE.out _ HS4.out).mono ?_; rintro e w5 ⟨rfl, d⟩; have HS5 : Hid (Qn w #[.int .i64 k, .int .i64 m, .int .i64 a, .int .i64 b, .bool ng, .string n, .slice sa sl sc, .slice ao nk cap] w5) := d; have x0 := (d.2).cell 0 (u := .int .i64 k) rfl; have x1 := (d.2).cell 1 (u := .int .i64 m) rfl; have x2 := (d.2).cell 2 (u := .int .i64 a) rfl; have x3 := (d.2).cell 3 (u := .int .i64 b) rfl; have x4 := (d.2).cell 4 (u := .bool ng) rfl; have x5 := (d.2).cell 5 (u := .string n) rfl; have x6 := (d.2).cell 6 (u := .slice sa sl sc) rfl; have x7 := (d.2).cell 7 (u := .slice ao nk cap) rfl; clear d)
      | (go_at_call 8; refine (CA.out _ HS5.out).mono ?_; rintro e w9 ⟨rfl, d⟩; have HF : Hid (Qn w #[.int .i64 k, .int .i64 m, .int .i64 a, .int .i64 b, .bool ng, .string n, .slice sa sl sc, .slice ao nk cap] w9) := d; clear d))
    go_ret
    exact ⟨rfl, HF.out.1⟩
end Go.Proofs.YtbdediacfckpcaaGreatDoor.tre
end

section
/- How a node that came in as an argument reads, and that its names are short. -/
set_option linter.unusedVariables false
set_option linter.unusedSimpArgs false
namespace Go.Proofs.YtbdediacfckpcaaGreatDoor.tre
open Go.ChangeShapes Go.WideShapes Go.ChangeAt Go.RowKit Go.Deep nod
open Go.Proofs.YtbdediacfckpcaaGreatDoor.rng (R RV)

theorem wall_mem {H : Type} {P : Program} {e : TypeId} {d : DataW H} {q : Nat} : ∀ {l : List (DataW H)}, d ∈ l → q ∈ d.weights P e → q ∈ DataW.weightsAll P e l
  | [], h, _ => by cases h
  | x :: l, h, hq => by
    rw [DataW.weightsAll]
    rcases List.mem_cons.1 h with rfl | h
    · exact List.mem_append_left _ hq
    · exact List.mem_append_right _ (wall_mem h hq)
theorem shortL_of : ∀ {ks : List Nd}, (∀ t ∈ ks, shortN t) → shortL ks
  | [], _ => by rw [shortL]; trivial
  | x :: ks, h => by rw [shortL]; exact ⟨h x (by simp), shortL_of fun t ht => h t (by simp [ht])⟩
set_option maxRecDepth 100000 in
theorem open_short' {H : Type} {enc : TypeId × Value → H} {W : World} : ∀ (fuel : Nat) (cs : List Value) (x : DataW H × List MemPlace), DataW.trod enc Tryz.prog W 0 (fun _ => true) true fuel 25 cs = some x →
    ∃ (t : Nd) (c0 c1 c2 c3 c4 c5 c6 c7 : Value), cs = [c0, c1, c2, c3, c4, c5, c6, c7] ∧ NV W.heap.size W t (.agg #[c0, c1, c2, c3, c4, c5, c6, c7]) ∧ ((∀ q ∈ x.1.weights Tryz.prog 25, q ≤ reachBytes) → shortN t) := by
  intro fuel
  induction fuel using Nat.strongRecOn with
  | _ fuel ih =>
  intro cs x h
  obtain ⟨xs, n, hn, rfl, hl, hlen, hf⟩ := DataW.trod_struct Tryz.underlying25 h
  have c8 : Tryz.prog.cellsOf 25 = 8 := by kernel_rfl
  rw [c8] at hl
  match cs, hl with
  | [c0, c1, c2, c3, c4, c5, c6, c7], _ =>
  match xs, hlen with
  | [y0, y1, y2, y3, y4, y5, y6, y7], _ =>
  have ci : Tryz.prog.cellsOf 3 = 1 := by kernel_rfl
  have cb : Tryz.prog.cellsOf 4 = 1 := by kernel_rfl
  have cs' : Tryz.prog.cellsOf 9 = 1 := by kernel_rfl
  have cr : Tryz.prog.cellsOf 22 = 1 := by kernel_rfl
  have ck : Tryz.prog.cellsOf 23 = 1 := by kernel_rfl
  have g0 := hf 0 _ rfl
  have g1 := hf 1 _ rfl
  have g2 := hf 2 _ rfl
  have g3 := hf 3 _ rfl
  have g4 := hf 4 _ rfl
  have g5 := hf 5 _ rfl
  have g6 := hf 6 _ rfl
  have g7 := hf 7 _ rfl
  simp [ci, cb, cs', cr, ck] at g0 g1 g2 g3 g4 g5 g6 g7
  obtain ⟨x0, hv0, _, w0⟩ := DataW.trod_int Tryz.underlying3 g0
  obtain ⟨x1, hv1, _, w1⟩ := DataW.trod_int Tryz.underlying3 g1
  obtain ⟨x2, hv2, _, w2⟩ := DataW.trod_int Tryz.underlying3 g2
  obtain ⟨x3, hv3, _, w3⟩ := DataW.trod_int Tryz.underlying3 g3
  obtain ⟨x4, hv4, _⟩ := DataW.trod_bool Tryz.underlying4 g4
  obtain ⟨x5, hv5, hy5, w5⟩ := DataW.trod_string Tryz.underlying9 g5
  obtain ⟨s, sa, sc, hv6, hs⟩ := open_set g6
  obtain rfl : c0 = .int .i64 x0 := by simpa using hv0
  obtain rfl : c1 = .int .i64 x1 := by simpa using hv1
  obtain rfl : c2 = .int .i64 x2 := by simpa using hv2
  obtain rfl : c3 = .int .i64 x3 := by simpa using hv3
  obtain rfl : c4 = .bool x4 := by simpa using hv4
  obtain rfl : c5 = .string x5 := by simpa using hv5
  subst hv6
  have hname : (∀ q ∈ (DataW.agg (List.map (fun y : DataW H × List MemPlace => y.1) [y0, y1, y2, y3, y4, y5, y6, y7])).weights Tryz.prog 25, q ≤ reachBytes) → x5.size ≤ 140737488355327 := fun hq => by
    have h1 := hq x5.data.toList.length (by
      rw [DataW.weights, Tryz.underlying25]
      exact DataW.weights_mem_each (j := 5) (t := 9) (d := y5.1) rfl rfl _ (by rw [hy5]; simp [DataW.weights]))
    have h2 := reachBytes_lt
    rw [Array.length_toList] at h1
    show x5.data.size ≤ _
    omega
  rcases DataW.trod_slice Tryz.underlying23 g7 with ⟨hcs, _⟩ | ⟨a, len, cap, elems, rest, n', hn', hcs, hy7, _, hlc, hm, hlen', hel, hsp, _⟩
  · obtain rfl : c7 = .slice none 0 0 := by simpa using hcs
    exact ⟨.mk x0 x1 x2 x3 x4 x5 s [], _, _, _, _, _, _, _, _, rfl, NV.shut (ks := []) ⟨wf64 w0, wf64 w1, wf64 w2, wf64 w3⟩ w5 hs ⟨by simp, by simp, fun _ => rfl⟩ (.inl rfl), fun hq => by rw [shortN, shortL]; exact ⟨hname hq, trivial⟩⟩
  · obtain rfl : c7 = .slice (some a) len cap := by simpa using hcs
    rcases Nat.eq_zero_or_pos len with h0 | h0
    · subst h0
      exact ⟨.mk x0 x1 x2 x3 x4 x5 s [], _, _, _, _, _, _, _, .slice (some a) 0 cap, rfl, NV.shut (ks := []) ⟨wf64 w0, wf64 w1, wf64 w2, wf64 w3⟩ w5 hs ⟨by simp, hm, fun e => (by cases e)⟩ (.inl rfl), fun hq => by rw [shortN, shortL]; exact ⟨hname hq, trivial⟩⟩
    obtain ⟨ab, ao, asp⟩ := a
    have hspot : asp = none := by
      have h1 := hel 0 h0
      rw [c8] at h1
      rw [List.getElem?_eq_getElem (by omega : 0 < elems.length)] at h1
      cases hc : W.cells? 0 ((⟨ab, ao, asp⟩ : Addr).add (0 * 8)) 8 with
      | none => rw [hc] at h1; cases h1
      | some cs'' =>
        rw [hc] at h1
        obtain ⟨t, d0, d1, d2, d3, d4, d5, d6, d7, e, hnv, _⟩ := ih n' (by omega) cs'' _ h1
        obtain ⟨_, _, hcell⟩ := World.cells?_some hc
        subst e
        have e0 := hcell 0 (by simp)
        simpa [Addr.add] using World.cell?_spot e0
    subst hspot
    have each : ∀ i, i < len → ∃ t : Nd, (∃ v, At8 W ab (ao + i * 8) v ∧ NV W.heap.size W t v) ∧ ((∀ q ∈ y7.1.weights Tryz.prog 23, q ≤ reachBytes) → shortN t) := by
      intro i hi
      have h1 := hel i hi
      rw [c8] at h1
      have hi' : i < elems.length := by omega
      rw [List.getElem?_eq_getElem hi'] at h1
      cases hc : W.cells? 0 ((⟨ab, ao, none⟩ : Addr).add (i * 8)) 8 with
      | none => rw [hc] at h1; cases h1
      | some cs'' =>
        rw [hc] at h1
        obtain ⟨t, d0, d1, d2, d3, d4, d5, d6, d7, e, hnv, hsh⟩ := ih n' (by omega) cs'' _ h1
        obtain ⟨_, _, hcell⟩ := World.cells?_some hc
        subst e
        have e0 := hcell 0 (by simp)
        have e1 := hcell 1 (by simp)
        have e2 := hcell 2 (by simp)
        have e3 := hcell 3 (by simp)
        have e4 := hcell 4 (by simp)
        have e5 := hcell 5 (by simp)
        have e6 := hcell 6 (by simp)
        have e7 := hcell 7 (by simp)
        rw [Go.Deep.add_add, Addr.add_lit] at e0 e1 e2 e3 e4 e5 e6 e7
        exact ⟨t, ⟨_, ⟨d0, d1, d2, d3, d4, d5, d6, d7, rfl, by simpa using e0, by simpa [Nat.add_assoc] using e1, by simpa [Nat.add_assoc] using e2, by simpa [Nat.add_assoc] using e3, by simpa [Nat.add_assoc] using e4, by simpa [Nat.add_assoc] using e5, by simpa [Nat.add_assoc] using e6, by simpa [Nat.add_assoc] using e7⟩, hnv⟩, fun hq => hsh fun q hm => hq q (by
          rw [hy7, DataW.weights, Tryz.underlying23]
          exact List.mem_cons_of_mem _ (List.mem_append_left _ (wall_mem (List.mem_map.2 ⟨_, List.getElem_mem hi', rfl⟩) hm)))⟩
    obtain ⟨tf, hT⟩ := choose_lt each
    refine ⟨.mk x0 x1 x2 x3 x4 x5 s ((List.range len).map tf), _, _, _, _, _, _, _, .slice (some ⟨ab, ao, none⟩) len cap, rfl, ?_, fun hq => ?_⟩
    rotate_left
    · rw [shortN]
      refine ⟨hname hq, shortL_of fun t ht => ?_⟩
      obtain ⟨i, hi, rfl⟩ := List.mem_map.1 ht
      refine (hT i (List.mem_range.1 hi)).2 fun q hm => hq q ?_
      rw [DataW.weights, Tryz.underlying25]
      exact DataW.weights_mem_each (j := 7) (t := 23) (d := y7.1) rfl rfl q hm
    have hlr : ((List.range len).map tf).length = len := by simp
    have := NV.shut (k := x0) (m := x1) (a := x2) (b := x3) (g := x4) (n := x5) (s := s) (ks := (List.range len).map tf) (sa := sa) (sc := sc) (ao := some ⟨ab, ao, none⟩) (cap := cap) (B := W.heap.size) (w := W) ⟨wf64 w0, wf64 w1, wf64 w2, wf64 w3⟩ w5 hs ⟨by rw [hlr]; exact hlc, hm, fun e => (by cases e)⟩ ?_
    · rw [hlr] at this; exact this
    · obtain ⟨⟨v0, h8, _⟩, _⟩ := hT 0 h0
      refine .inr ⟨ab, ao, rfl, ?_, fun i t hi => ?_⟩
      · obtain ⟨_, _, _, _, _, _, _, _, _, hz, _⟩ := h8
        exact World.block_lt_of_cell? W _ hz
      · rw [List.getElem?_map] at hi
        have hil : i < len := by
          rcases Nat.lt_or_ge i len with h' | h'
          · exact h'
          · rw [List.getElem?_eq_none (by simpa using h')] at hi; cases hi
        rw [List.getElem?_range hil] at hi
        obtain rfl : tf i = t := by simpa using hi
        exact (hT i hil).1

set_option maxRecDepth 100000 in
theorem open_short {H : Type} {enc : TypeId × Value → H} {W : World} {base : Nat} {v : Value} {d : DataW H} {p : List MemPlace}
    (hv : Value.okWide Tryz.prog W .any base 25 v) (h : DataW.Trod enc Tryz.prog W 0 (fun _ => true) true 25 v d p) (hq : ∀ q ∈ d.weights Tryz.prog 25, q ≤ reachBytes) :
    ∃ t : Nd, NV W.heap.size W t v ∧ shortN t := by
  obtain ⟨fuel, hf⟩ := h
  obtain ⟨t, c0, c1, c2, c3, c4, c5, c6, c7, e, hn, hs⟩ := open_short' fuel _ _ hf
  obtain ⟨cs, rfl, _⟩ := okWide_struct Tryz.underlying25 hv
  have hvv : cs = #[c0, c1, c2, c3, c4, c5, c6, c7] := by
    have : cs.toList = [c0, c1, c2, c3, c4, c5, c6, c7] := by simpa [Value.cells] using e
    exact Array.toList_inj.1 this
  subst hvv
  exact ⟨t, hn, hs hq⟩
/-- What the weights of all arguments say of one. -/
theorem sized_part {H : Type} {P : Program} {ts : List TypeId} {ds : List (DataW H)} (h : (DataW.weightsEach P ts ds).all (· ≤ reachBytes) = true) {j : Nat} {t : TypeId} {d : DataW H} (ht : ts[j]? = some t) (hd : ds[j]? = some d) : ∀ q ∈ d.weights P t, q ≤ reachBytes := fun q hq => by
  have := List.all_eq_true.1 h q (DataW.weights_mem_each ht hd q hq)
  simpa using this
end Go.Proofs.YtbdediacfckpcaaGreatDoor.tre
end
