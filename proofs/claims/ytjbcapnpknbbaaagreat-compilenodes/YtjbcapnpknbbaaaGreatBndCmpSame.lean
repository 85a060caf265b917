/- Texts that the proof leans on, one behind the other. -/
import Derived.Test.YtjbcapnpknbbaaaGreatCmpDoc15
import Derived.Deep.RegionWith

section
/- rubricatorplain.SameProg at two readings of one program. -/
set_option linter.unusedVariables false
set_option linter.unusedSimpArgs false
namespace Go.Proofs.YtjbcapnpknbbaaaGreat.cmp
open Go.RowKit nod
open Go.Proofs.YtjbcapnpknbbaaaGreat.rng (R RV info_parts below_drewN)
set_option maxRecDepth 10000 in
set_option maxHeartbeats 2000000 in
theorem equal_sets (a1 a2 : Option Addr) (c1 c2 : Nat) (l : List R) (n : Nat) (hl : l.length = n) (w : World) (hn : n ≤ 8796093021952) (h1 : RV w a1 l) (h2 : RV w a2 l) :
    Calls Tryz.prog 26 #[.slice a1 n c1, .slice a2 n c2] w fun e w' => e = .returned (.bool true) ∧ Below w.heap.size w w' := by
  have H1 : Hid (RV w a1 l) := h1
  have H2 : Hid (RV w a2 l) := h2
  have HL : Hid (l.length = n) := hl
  clear h1 h2 hl
  have hnn : ((n : Int) != (n : Int)) = false := by simp
  go_enter Tryz.func26, Tryz.ntmps26
  go_wp2
  go_loopw [13] (fun i wr => ∃ k : Nat, k ≤ n ∧ i = .int .i64 k ∧ ∃ q, wr = w.drewN q) (fun i _ => n - (intOf i).toNat)
  case atStart => exact ⟨0, Nat.zero_le _, rfl, 0, rfl⟩
  case round =>
    obtain ⟨k, hk, rfl, q, rfl⟩ := hrel
    by_cases hlt : k < n
    · have hlt' : (k : Int) < (n : Int) := by omega
      obtain ⟨x, y, hp⟩ := rng.get_lt HL.out hlt
      obtain ⟨b1, o1, rfl, k1⟩ := H1.out.some (by have := HL.out; omega)
      obtain ⟨b2, o2, rfl, k2⟩ := H2.out.some (by have := HL.out; omega)
      obtain ⟨p1, p2⟩ := k1 k (x, y) hp
      obtain ⟨q1, q2⟩ := k2 k (x, y) hp
      simp only at p1 p2 q1 q2
      clear k1 k2 hp
      go_wp2
      go_quiet (fail)
      go_wp2
      go_roundw
      case rel => exact ⟨k + 1, by omega, by go_num, _, rfl⟩
      case measure => simp [intOf]; omega
    · go_wp2
      go_ret
      exact ⟨rfl, below_drewN (Below.refl _ _) _⟩
set_option maxRecDepth 10000 in
set_option maxHeartbeats 2000000 in
theorem equal_strs (g1 g2 : Nat) (c1 c2 : Nat) (l : List ByteArray) (n : Nat) (hl : l.length = n) (w : World) (hn : n ≤ 1000) (h1 : ∀ (i : Nat) s, l[i]? = some s → w.cell? ⟨g1, i, none⟩ = some (.string s)) (h2 : ∀ (i : Nat) s, l[i]? = some s → w.cell? ⟨g2, i, none⟩ = some (.string s)) (hc1 : n ≤ c1) (hc2 : n ≤ c2) :
    Calls Tryz.prog 27 #[.slice (some ⟨g1, 0, none⟩) n c1, .slice (some ⟨g2, 0, none⟩) n c2] w fun e w' => e = .returned (.bool true) ∧ Below w.heap.size w w' := by
  have H1 : Hid (∀ (i : Nat) s, l[i]? = some s → w.cell? ⟨g1, i, none⟩ = some (.string s)) := h1
  have H2 : Hid (∀ (i : Nat) s, l[i]? = some s → w.cell? ⟨g2, i, none⟩ = some (.string s)) := h2
  have HL : Hid (l.length = n) := hl
  clear h1 h2 hl
  have hnn : ((n : Int) != (n : Int)) = false := by simp
  go_enter Tryz.func27, Tryz.ntmps27
  go_wp2
  go_loopw [13] (fun i wr => ∃ k : Nat, k ≤ n ∧ i = .int .i64 k ∧ ∃ q, wr = w.drewN q) (fun i _ => n - (intOf i).toNat)
  case atStart => exact ⟨0, Nat.zero_le _, rfl, 0, rfl⟩
  case round =>
    obtain ⟨k, hk, rfl, q, rfl⟩ := hrel
    by_cases hlt : k < n
    · have hlt' : (k : Int) < (n : Int) := by omega
      obtain ⟨s, hs⟩ := getX HL.out hlt
      have p1 := H1.out k s hs
      have q1 := H2.out k s hs
      have es : (s.toList == s.toList) = true := by simp
      have es2 : (s.toList != s.toList) = false := by simp
      clear hs
      go_wp2
      go_quiet (fail)
      go_wp2
      go_roundw
      case rel => exact ⟨k + 1, by omega, by go_num, _, rfl⟩
      case measure => simp [intOf]; omega
    · go_wp2
      go_ret
      exact ⟨rfl, below_drewN (Below.refl _ _) _⟩
set_option maxRecDepth 10000 in
set_option maxHeartbeats 4000000 in
theorem inst_same (o x y mn mx : Int) (s1 s2 : Option Addr) (sl c1 c2 : Nat) (l : List R) (hl : l.length = sl) (hs : sl ≤ 8796093021952) (w : World) (h1 : RV w s1 l) (h2 : RV w s2 l) :
    Calls Tryz.prog 25 #[.agg #[.int .i64 o, .int .i64 x, .int .i64 y, .int .i64 mn, .int .i64 mx, .slice s1 sl c1], .agg #[.int .i64 o, .int .i64 x, .int .i64 y, .int .i64 mn, .int .i64 mx, .slice s2 sl c2]] w fun e w' => e = .returned (.bool true) ∧ Below w.heap.size w w' := by
  have W2 : Below w.heap.size w ((w.alloc (.cells #[.int .i64 o, .int .i64 x, .int .i64 y, .int .i64 mn, .int .i64 mx, .slice s1 sl c1] 66)).alloc (.cells #[.int .i64 o, .int .i64 x, .int .i64 y, .int .i64 mn, .int .i64 mx, .slice s2 sl c2] 66)) := below2 _ _ _
  have HA : Hid (Bk ((w.alloc (.cells #[.int .i64 o, .int .i64 x, .int .i64 y, .int .i64 mn, .int .i64 mx, .slice s1 sl c1] 66)).alloc (.cells #[.int .i64 o, .int .i64 x, .int .i64 y, .int .i64 mn, .int .i64 mx, .slice s2 sl c2] 66)) w.heap.size #[.int .i64 o, .int .i64 x, .int .i64 y, .int .i64 mn, .int .i64 mx, .slice s1 sl c1] 66) := (Bk.new w _ _).past _
  have HB : Hid (Bk ((w.alloc (.cells #[.int .i64 o, .int .i64 x, .int .i64 y, .int .i64 mn, .int .i64 mx, .slice s1 sl c1] 66)).alloc (.cells #[.int .i64 o, .int .i64 x, .int .i64 y, .int .i64 mn, .int .i64 mx, .slice s2 sl c2] 66)) (w.heap.size + 1) #[.int .i64 o, .int .i64 x, .int .i64 y, .int .i64 mn, .int .i64 mx, .slice s2 sl c2] 66) := bk2
  have CE := equal_sets s1 s2 c1 c2 l sl hl ((w.alloc (.cells #[.int .i64 o, .int .i64 x, .int .i64 y, .int .i64 mn, .int .i64 mx, .slice s1 sl c1] 66)).alloc (.cells #[.int .i64 o, .int .i64 x, .int .i64 y, .int .i64 mn, .int .i64 mx, .slice s2 sl c2] 66)) hs (h1.below W2) (h2.below W2)
  have HW : Hid (Below w.heap.size w ((w.alloc (.cells #[.int .i64 o, .int .i64 x, .int .i64 y, .int .i64 mn, .int .i64 mx, .slice s1 sl c1] 66)).alloc (.cells #[.int .i64 o, .int .i64 x, .int .i64 y, .int .i64 mn, .int .i64 mx, .slice s2 sl c2] 66))) := W2
  have hz : ((w.alloc (.cells #[.int .i64 o, .int .i64 x, .int .i64 y, .int .i64 mn, .int .i64 mx, .slice s1 sl c1] 66)).alloc (.cells #[.int .i64 o, .int .i64 x, .int .i64 y, .int .i64 mn, .int .i64 mx, .slice s2 sl c2] 66)).heap.size = w.heap.size + 1 + 1 := by simp
  have x0 := HA.out.cell 0 (u := .int .i64 o) rfl; have x1 := HA.out.cell 1 (u := .int .i64 x) rfl; have x2 := HA.out.cell 2 (u := .int .i64 y) rfl; have x3 := HA.out.cell 3 (u := .int .i64 mn) rfl; have x4 := HA.out.cell 4 (u := .int .i64 mx) rfl; have x5 := HA.out.cell 5 (u := .slice s1 sl c1) rfl
  have y0 := HB.out.cell 0 (u := .int .i64 o) rfl; have y1 := HB.out.cell 1 (u := .int .i64 x) rfl; have y2 := HB.out.cell 2 (u := .int .i64 y) rfl; have y3 := HB.out.cell 3 (u := .int .i64 mn) rfl; have y4 := HB.out.cell 4 (u := .int .i64 mx) rfl; have y5 := HB.out.cell 5 (u := .slice s2 sl c2) rfl
  clear h1 h2 W2 hl
  go_enter Tryz.func25, Tryz.ntmps25
  go_wp2_with (go_at_call 26; refine CE.mono ?_; clear CE; rintro e w3 ⟨rfl, b3⟩; have HB3 : Hid (Below w.heap.size w w3) := HW.out.trans (below_less b3 (by omega)); clear b3)
  go_ret
  exact ⟨rfl, HB3.out⟩
/-- Two rows of instructions that are the same but for where their sets lie. -/
def TwoR (w : World) : List (Is SV) → List (Is SV) → Prop
  | [], [] => True
  | i :: p, j :: q => (∃ l : List R, l.length ≤ 8796093021952 ∧ i.op = j.op ∧ i.x = j.x ∧ i.y = j.y ∧ i.mn = j.mn ∧ i.mx = j.mx ∧ RV w i.set.1 l ∧ RV w j.set.1 l ∧ i.set.2.1 = l.length ∧ j.set.2.1 = l.length) ∧ TwoR w p q
  | _, _ => False
theorem TwoR.get {w : World} : ∀ {p q : List (Is SV)}, TwoR w p q → ∀ (k : Nat) i, p[k]? = some i → ∃ j, q[k]? = some j ∧ ∃ l : List R, l.length ≤ 8796093021952 ∧ i.op = j.op ∧ i.x = j.x ∧ i.y = j.y ∧ i.mn = j.mn ∧ i.mx = j.mx ∧ RV w i.set.1 l ∧ RV w j.set.1 l ∧ i.set.2.1 = l.length ∧ j.set.2.1 = l.length
  | [], [], h, k, i, hi => by simp at hi
  | [], _ :: _, h, k, i, hi => h.elim
  | _ :: _, [], h, k, i, hi => h.elim
  | i :: p, j :: q, h, 0, x, hx => by simp at hx; subst hx; exact ⟨j, rfl, h.1⟩
  | i :: p, j :: q, h, k + 1, x, hx => TwoR.get h.2 k x (by simpa using hx)
theorem TwoR.len {w : World} : ∀ {p q : List (Is SV)}, TwoR w p q → p.length = q.length
  | [], [], h => rfl
  | [], _ :: _, h => h.elim
  | _ :: _, [], h => h.elim
  | i :: p, j :: q, h => by simp [TwoR.len h.2]
theorem TwoR.of {w : World} {lo : Nat} {p q : List (Is SV)} {r : List (Is (List R))} (h1 : RL (QN w lo) p r) : RL (QO w) q r → (∀ i ∈ r, i.set.length ≤ 8796093021952) → TwoR w p q := by
  induction h1 generalizing q with
  | nil => intro h2 _; cases h2; trivial
  | @cons i j p r a h1 ih =>
    intro h2 hs
    cases h2 with
    | @cons i' _ q _ b h2 =>
      refine ⟨⟨j.set, hs j (List.mem_cons_self ..), a.op.trans b.op.symm, a.x.trans b.x.symm, a.y.trans b.y.symm, a.mn.trans b.mn.symm, a.mx.trans b.mx.symm, a.set.1, ?_, a.set.2.1, ?_⟩, ih h2 fun i hi => hs i (List.mem_cons_of_mem _ hi)⟩
      · obtain ⟨ao, cap, e, hv, _⟩ := rng.Own.view (B := 0) (v := sv i'.set) (l := j.set) b.set
        have : i'.set.1 = ao := by have := congrArg (fun v => match v with | Value.slice x _ _ => x | _ => none) e; simpa [sv] using this
        rw [this]; exact hv
      · obtain ⟨ao, cap, e, _⟩ := rng.Own.view (B := 0) (v := sv i'.set) (l := j.set) b.set
        have := congrArg (fun v => match v with | Value.slice _ x _ => x | _ => 0) e
        simpa [sv] using this
theorem TwoR.below {w w' : World} (hb : Below w.heap.size w w') : ∀ {p q : List (Is SV)}, TwoR w p q → TwoR w' p q
  | [], [], h => trivial
  | [], _ :: _, h => h.elim
  | _ :: _, [], h => h.elim
  | i :: p, j :: q, h => by
    obtain ⟨⟨l, h0, h1, h2, h3, h4, h5, h6, h7, h8⟩, h9⟩ := h
    exact ⟨⟨l, h0, h1, h2, h3, h4, h5, h6.below hb, h7.below hb, h8⟩, TwoR.below hb h9⟩
set_option maxRecDepth 10000 in
set_option maxHeartbeats 8000000 in
theorem code_same (k1 k2 : Option Addr) (n c1 c2 : Nat) (p q : List (Is SV)) (w : World) (hp : p.length = n) (hn : n ≤ 100000) (h1 : CR w k1 p) (h2 : CR w k2 q) (ht : TwoR w p q) :
    Calls Tryz.prog 28 #[.slice k1 n c1, .slice k2 n c2, .func (.func 25) #[] #[]] w fun e w' => e = .returned (.bool true) ∧ Below w.heap.size w w' := by
  have hq : q.length = n := by rw [← ht.len, hp]
  have H1 : Hid (CR w k1 p) := h1
  have H2 : Hid (CR w k2 q) := h2
  have HT : Hid (TwoR w p q) := ht
  have HP : Hid (p.length = n) := hp
  have HQ : Hid (q.length = n) := hq
  have HW0 : Hid (Below w.heap.size w w) := Below.refl _ _
  clear h1 h2 ht hp hq
  have hnn : ((n : Int) != (n : Int)) = false := by simp
  go_enter Tryz.func28, Tryz.ntmps28
  go_wp2
  go_loopw [17] (fun i wr => ∃ k : Nat, k ≤ n ∧ i = .int .i64 k ∧ Hid (Below w.heap.size w wr)) (fun i _ => n - (intOf i).toNat)
  case atStart => exact ⟨0, Nat.zero_le _, rfl, HW0⟩
  case round =>
    obtain ⟨k, hk, rfl, HW⟩ := hrel
    clear HW0
    by_cases hlt : k < n
    · have hlt' : (k : Int) < (n : Int) := by omega
      obtain ⟨i, hi⟩ := getX HP.out hlt
      obtain ⟨j, hj, l, hl0, e1, e2, e3, e4, e5, hv1, hv2, hn1, hn2⟩ := HT.out.get k i hi
      obtain ⟨b1, o1, rfl, a1⟩ := (H1.out.below HW.out).pos (by have := HP.out; omega)
      obtain ⟨b2, o2, rfl, a2⟩ := (H2.out.below HW.out).pos (by have := HQ.out; omega)
      have A1 := a1 k i hi
      have A2 := a2 k j hj
      obtain ⟨io, ix, iy, imn, imx, is1, isl, isc⟩ := i
      obtain ⟨jo, jx, jy, jmn, jmx, js1, jsl, jsc⟩ := j
      simp only at e1 e2 e3 e4 e5 hv1 hv2 hn1 hn2
      subst e1 e2 e3 e4 e5
      obtain ⟨nl, hnl⟩ : ∃ nl, l.length = nl := ⟨_, rfl⟩
      rw [hnl] at hn1 hn2 hl0
      obtain rfl := hn1.symm
      obtain rfl := hn2.symm
      have u0 := A1.c0; have u1 := A1.c1; have u2 := A1.c2; have u3 := A1.c3; have u4 := A1.c4; have u5 := A1.c5
      have v0 := A2.c0; have v1 := A2.c1; have v2 := A2.c2; have v3 := A2.c3; have v4 := A2.c4; have v5 := A2.c5
      simp only at u0 u1 u2 u3 u4 u5 v0 v1 v2 v3 v4 v5
      have B1 : Below w.heap.size w ((wr.alloc (.cells #[.int .i64 io, .int .i64 ix, .int .i64 iy, .int .i64 imn, .int .i64 imx, .slice is1 nl isc] 66)).alloc (.cells #[.int .i64 io, .int .i64 ix, .int .i64 iy, .int .i64 imn, .int .i64 imx, .slice js1 nl jsc] 66)) := (HW.out.alloc HW.out.size _).alloc (by have := HW.out.size; simp; omega) _
      have CI := inst_same io ix iy imn imx is1 js1 nl isc jsc l hnl hl0 ((wr.alloc (.cells #[.int .i64 io, .int .i64 ix, .int .i64 iy, .int .i64 imn, .int .i64 imx, .slice is1 nl isc] 66)).alloc (.cells #[.int .i64 io, .int .i64 ix, .int .i64 iy, .int .i64 imn, .int .i64 imx, .slice js1 nl jsc] 66)) (hv1.below B1) (hv2.below B1)
      have z0 := cell_past (.cells #[.int .i64 io, .int .i64 ix, .int .i64 iy, .int .i64 imn, .int .i64 imx, .slice is1 nl isc] 66) v0
      have z1 := cell_past (.cells #[.int .i64 io, .int .i64 ix, .int .i64 iy, .int .i64 imn, .int .i64 imx, .slice is1 nl isc] 66) v1
      have z2 := cell_past (.cells #[.int .i64 io, .int .i64 ix, .int .i64 iy, .int .i64 imn, .int .i64 imx, .slice is1 nl isc] 66) v2
      have z3 := cell_past (.cells #[.int .i64 io, .int .i64 ix, .int .i64 iy, .int .i64 imn, .int .i64 imx, .slice is1 nl isc] 66) v3
      have z4 := cell_past (.cells #[.int .i64 io, .int .i64 ix, .int .i64 iy, .int .i64 imn, .int .i64 imx, .slice is1 nl isc] 66) v4
      have z5 := cell_past (.cells #[.int .i64 io, .int .i64 ix, .int .i64 iy, .int .i64 imn, .int .i64 imx, .slice is1 nl isc] 66) v5
      have HB1 : Hid (Below w.heap.size w ((wr.alloc (.cells #[.int .i64 io, .int .i64 ix, .int .i64 iy, .int .i64 imn, .int .i64 imx, .slice is1 nl isc] 66)).alloc (.cells #[.int .i64 io, .int .i64 ix, .int .i64 iy, .int .i64 imn, .int .i64 imx, .slice js1 nl jsc] 66))) := B1
      clear hi hj hv1 hv2 a1 a2 A1 A2 hnl B1 HW v0 v1 v2 v3 v4 v5
      go_wp2_with (go_at_call 25; refine CI.mono ?_; clear CI; rintro e w5 ⟨rfl, b5⟩; have HB5 : Hid (Below w.heap.size w w5) := HB1.out.trans (below_less b5 HB1.out.size); clear b5)
      go_roundw
      case rel => exact ⟨k + 1, by omega, by go_num, HB5⟩
      case measure => simp [intOf]; omega
    · go_wp2
      go_ret
      exact ⟨rfl, HW.out⟩
end Go.Proofs.YtjbcapnpknbbaaaGreat.cmp
end

section
/- rubricatorplain.SameProg. -/
set_option linter.unusedVariables false
set_option linter.unusedSimpArgs false
namespace Go.Proofs.YtjbcapnpknbbaaaGreat.cmp
open Go.RowKit nod
open Go.Proofs.YtjbcapnpknbbaaaGreat.rng (R RV info_parts canB)
open Go.Proofs.YtjbcapnpknbbaaaGreat.low (setsN setsL plN)
set_option maxRecDepth 10000 in
set_option maxHeartbeats 4000000 in
theorem equal_strs0 (w : World) : Calls Tryz.prog 27 #[.slice none 0 0, .slice none 0 0] w fun e w' => e = .returned (.bool true) ∧ Below w.heap.size w w' := by
  go_enter Tryz.func27, Tryz.ntmps27
  go_wp2
  go_loopw [13] (fun i wr => i = .int .i64 0 ∧ wr = w) (fun i _ => 0)
  case atStart => exact ⟨rfl, rfl⟩
  case round =>
    obtain ⟨rfl, rfl⟩ := hrel
    go_wp2
    go_ret
    exact ⟨rfl, Below.refl _ _⟩
set_option maxRecDepth 10000 in
set_option maxHeartbeats 4000000 in
theorem sameprog_any (k1 k2 n1 n2 : Option Addr) (n c1 c2 nn nc1 nc2 : Nat) (gr mk : Int) (o0 o1 o2 : Bool) (o3 : Int) (w : World) (CS : ∀ W, Below w.heap.size w W → Calls Tryz.prog 27 #[.slice n1 nn nc1, .slice n2 nn nc2] W fun e w' => e = .returned (.bool true) ∧ Below W.heap.size W w')
    (CC : ∀ W, Below w.heap.size w W → Calls Tryz.prog 28 #[.slice k1 n c1, .slice k2 n c2, .func (.func 25) #[] #[]] W fun e w' => e = .returned (.bool true) ∧ Below W.heap.size W w') :
    Calls Tryz.prog 9 #[.agg #[.slice k1 n c1, .int .i64 gr, .int .i64 mk, .slice n1 nn nc1, .bool o0, .bool o1, .bool o2, .int .i64 o3], .agg #[.slice k2 n c2, .int .i64 gr, .int .i64 mk, .slice n2 nn nc2, .bool o0, .bool o1, .bool o2, .int .i64 o3]] w fun e w' => e = .returned (.bool true) ∧ Below w.heap.size w w' := by
  have W2 : Below w.heap.size w ((w.alloc (.cells #[.slice k1 n c1, .int .i64 gr, .int .i64 mk, .slice n1 nn nc1, .bool o0, .bool o1, .bool o2, .int .i64 o3] 34)).alloc (.cells #[.slice k2 n c2, .int .i64 gr, .int .i64 mk, .slice n2 nn nc2, .bool o0, .bool o1, .bool o2, .int .i64 o3] 34)) := below2 _ _ _
  have HA : Hid (Bk ((w.alloc (.cells #[.slice k1 n c1, .int .i64 gr, .int .i64 mk, .slice n1 nn nc1, .bool o0, .bool o1, .bool o2, .int .i64 o3] 34)).alloc (.cells #[.slice k2 n c2, .int .i64 gr, .int .i64 mk, .slice n2 nn nc2, .bool o0, .bool o1, .bool o2, .int .i64 o3] 34)) w.heap.size #[.slice k1 n c1, .int .i64 gr, .int .i64 mk, .slice n1 nn nc1, .bool o0, .bool o1, .bool o2, .int .i64 o3] 34) := (Bk.new w _ _).past _
  have HB : Hid (Bk ((w.alloc (.cells #[.slice k1 n c1, .int .i64 gr, .int .i64 mk, .slice n1 nn nc1, .bool o0, .bool o1, .bool o2, .int .i64 o3] 34)).alloc (.cells #[.slice k2 n c2, .int .i64 gr, .int .i64 mk, .slice n2 nn nc2, .bool o0, .bool o1, .bool o2, .int .i64 o3] 34)) (w.heap.size + 1) #[.slice k2 n c2, .int .i64 gr, .int .i64 mk, .slice n2 nn nc2, .bool o0, .bool o1, .bool o2, .int .i64 o3] 34) := bk2
  have HW2 : Hid (Below w.heap.size w ((w.alloc (.cells #[.slice k1 n c1, .int .i64 gr, .int .i64 mk, .slice n1 nn nc1, .bool o0, .bool o1, .bool o2, .int .i64 o3] 34)).alloc (.cells #[.slice k2 n c2, .int .i64 gr, .int .i64 mk, .slice n2 nn nc2, .bool o0, .bool o1, .bool o2, .int .i64 o3] 34))) := W2
  have C1 := CS _ W2
  have HCC : Hid (∀ W, Below w.heap.size w W → Calls Tryz.prog 28 #[.slice k1 n c1, .slice k2 n c2, .func (.func 25) #[] #[]] W fun e w' => e = .returned (.bool true) ∧ Below W.heap.size W w') := CC
  have hz : ((w.alloc (.cells #[.slice k1 n c1, .int .i64 gr, .int .i64 mk, .slice n1 nn nc1, .bool o0, .bool o1, .bool o2, .int .i64 o3] 34)).alloc (.cells #[.slice k2 n c2, .int .i64 gr, .int .i64 mk, .slice n2 nn nc2, .bool o0, .bool o1, .bool o2, .int .i64 o3] 34)).heap.size = w.heap.size + 1 + 1 := by simp
  have x0 := HA.out.cell 0 (u := .slice k1 n c1) rfl; have x1 := HA.out.cell 1 (u := .int .i64 gr) rfl; have x2 := HA.out.cell 2 (u := .int .i64 mk) rfl; have x3 := HA.out.cell 3 (u := .slice n1 nn nc1) rfl; have x4 := HA.out.cell 4 (u := .bool o0) rfl; have x5 := HA.out.cell 5 (u := .bool o1) rfl; have x6 := HA.out.cell 6 (u := .bool o2) rfl; have x7 := HA.out.cell 7 (u := .int .i64 o3) rfl
  have y0 := HB.out.cell 0 (u := .slice k2 n c2) rfl; have y1 := HB.out.cell 1 (u := .int .i64 gr) rfl; have y2 := HB.out.cell 2 (u := .int .i64 mk) rfl; have y3 := HB.out.cell 3 (u := .slice n2 nn nc2) rfl; have y4 := HB.out.cell 4 (u := .bool o0) rfl; have y5 := HB.out.cell 5 (u := .bool o1) rfl; have y6 := HB.out.cell 6 (u := .bool o2) rfl; have y7 := HB.out.cell 7 (u := .int .i64 o3) rfl
  clear CS CC W2
  go_enter Tryz.func9, Tryz.ntmps9
  go_wp2_with (first
    | (go_at_call 27; refine C1.mono ?_; clear C1 x0 x1 x2 x3 x4 x5 x6 x7 y0 y1 y2 y3 y4 y5 y6 y7; rintro e w3 ⟨rfl, b3⟩; have HB3 : Hid (Below w.heap.size w w3) := HW2.out.trans (below_less b3 (by omega)); have hx3 := HA.out.on b3; have hy3 := HB.out.on b3; have x0 := hx3.cell 0 (u := .slice k1 n c1) rfl; have x1 := hx3.cell 1 (u := .int .i64 gr) rfl; have x2 := hx3.cell 2 (u := .int .i64 mk) rfl; have x3 := hx3.cell 3 (u := .slice n1 nn nc1) rfl; have x4 := hx3.cell 4 (u := .bool o0) rfl; have x5 := hx3.cell 5 (u := .bool o1) rfl; have x6 := hx3.cell 6 (u := .bool o2) rfl; have x7 := hx3.cell 7 (u := .int .i64 o3) rfl; have y0 := hy3.cell 0 (u := .slice k2 n c2) rfl; have y1 := hy3.cell 1 (u := .int .i64 gr) rfl; have y2 := hy3.cell 2 (u := .int .i64 mk) rfl; have y3 := hy3.cell 3 (u := .slice n2 nn nc2) rfl; have y4 := hy3.cell 4 (u := .bool o0) rfl; have y5 := hy3.cell 5 (u := .bool o1) rfl; have y6 := hy3.cell 6 (u := .bool o2) rfl; have y7 := hy3.cell 7 (u := .int .i64 o3) rfl; clear hx3 hy3 b3; have C2 := HCC.out w3 HB3.out)
    | (go_at_call 28; refine C2.mono ?_; clear C2; rintro e w4 ⟨rfl, b4⟩; have HB4 : Hid (Below w.heap.size w w4) := HB3.out.trans (below_less b4 HB3.out.size); clear b4))
  go_ret
  exact ⟨rfl, HB4.out⟩
end Go.Proofs.YtjbcapnpknbbaaaGreat.cmp
end
