/- Texts that the proof leans on, one behind the other. -/
import Derived.Test.YtjbcapnpknbbaaaGreatBndCmpMem
import Derived.Deep.RegionHeld3
import Derived.Deep.LoopGhost
import Derived.Deep.CutBlock

section
/- compile.moved and compile.one. -/
set_option linter.unusedVariables false
set_option linter.unusedSimpArgs false
namespace Go.Proofs.YtjbcapnpknbbaaaGreat.cmp
open Go.RowKit nod
open Go.Proofs.YtjbcapnpknbbaaaGreat.rng (R RV info_parts)

theorem inf6 : (Tryz.prog.info? 66).map (·.size) = some 6 := by kernel_rfl
theorem cr_bk {w : World} {g : Nat} {i : Is SV} {t : TypeId} (h : Bk w g #[.int .i64 i.op, .int .i64 i.x, .int .i64 i.y, .int .i64 i.mn, .int .i64 i.mx, .slice i.set.1 i.set.2.1 i.set.2.2] t) : CR w (some ⟨g, 0, none⟩) [i] := by
  refine .inr ⟨g, 0, rfl, fun k x hk j u hu => ?_⟩
  match k, hk with
  | 0, hk =>
    simp at hk; subst hk
    have := h.cell j (u := u) (by simpa [cells6, sv] using hu)
    simpa using this
  | k + 1, hk => simp at hk
theorem infP : (Tryz.prog.info? 55).map (·.size) = some 2 := by kernel_rfl
set_option maxRecDepth 10000 in
set_option maxHeartbeats 4000000 in
theorem moved_any (i : Is SV) (p m : Int) (w : World) (hx : 0 ≤ i.x ∧ i.x ≤ 1000000000000) (hy : 0 ≤ i.y ∧ i.y ≤ 1000000000000) (hp : 0 ≤ p ∧ p ≤ 1000000000000) (hm : 0 ≤ m ∧ m ≤ 1000000000000) :
    Calls Tryz.prog 103 #[agg6 i, .int .i64 p, .int .i64 m] w fun e w' => e = .returned (agg6 (mv p m i)) ∧ Below w.heap.size w w' := by
  obtain ⟨o, x, y, mn, mx, sa, sl, sc⟩ := i
  simp only at hx hy
  rw [agg6, sv]
  simp only
  obtain ⟨hx1, hx2⟩ := hx
  obtain ⟨hy1, hy2⟩ := hy
  obtain ⟨hp1, hp2⟩ := hp
  obtain ⟨hm1, hm2⟩ := hm
  by_cases h2 : o = 2
  · subst h2
    have e : mv p m (⟨2, x, y, mn, mx, (sa, sl, sc)⟩ : Is SV) = ⟨2, x + p, y + p, mn, mx, (sa, sl, sc)⟩ := by simp [mv]
    rw [e, agg6, sv]
    clear e
    go_enter Tryz.func103, Tryz.ntmps103
    go_wp2
    refine bodyPost_ret (results_cell_row Tryz.results103 _ _ (w.heap.size + 1) _ #[.int .i64 (2), .int .i64 (x + p), .int .i64 (y + p), .int .i64 mn, .int .i64 mx, .slice sa sl sc] _ _ rfl bk2 Tryz.underlying66 rfl inf6) rfl ?_
    exact ⟨rfl, below2 _ _ _⟩
  by_cases h3 : o = 3
  · subst h3
    have e : mv p m (⟨3, x, y, mn, mx, (sa, sl, sc)⟩ : Is SV) = ⟨3, x + p, y, mn, mx, (sa, sl, sc)⟩ := by simp [mv]
    rw [e, agg6, sv]
    clear e
    go_enter Tryz.func103, Tryz.ntmps103
    go_wp2
    refine bodyPost_ret (results_cell_row Tryz.results103 _ _ (w.heap.size + 1) _ #[.int .i64 (3), .int .i64 (x + p), .int .i64 (y), .int .i64 mn, .int .i64 mx, .slice sa sl sc] _ _ rfl bk2 Tryz.underlying66 rfl inf6) rfl ?_
    exact ⟨rfl, below2 _ _ _⟩
  by_cases h10 : o = 10
  · subst h10
    have e : mv p m (⟨10, x, y, mn, mx, (sa, sl, sc)⟩ : Is SV) = ⟨10, x + m, y, mn, mx, (sa, sl, sc)⟩ := by simp [mv]
    rw [e, agg6, sv]
    clear e
    go_enter Tryz.func103, Tryz.ntmps103
    go_wp2
    refine bodyPost_ret (results_cell_row Tryz.results103 _ _ (w.heap.size + 1) _ #[.int .i64 (10), .int .i64 (x + m), .int .i64 (y), .int .i64 mn, .int .i64 mx, .slice sa sl sc] _ _ rfl bk2 Tryz.underlying66 rfl inf6) rfl ?_
    exact ⟨rfl, below2 _ _ _⟩
  by_cases h11 : o = 11
  · subst h11
    have e : mv p m (⟨11, x, y, mn, mx, (sa, sl, sc)⟩ : Is SV) = ⟨11, x + m, y + p, mn, mx, (sa, sl, sc)⟩ := by simp [mv]
    rw [e, agg6, sv]
    clear e
    go_enter Tryz.func103, Tryz.ntmps103
    go_wp2
    refine bodyPost_ret (results_cell_row Tryz.results103 _ _ (w.heap.size + 1) _ #[.int .i64 (11), .int .i64 (x + m), .int .i64 (y + p), .int .i64 mn, .int .i64 mx, .slice sa sl sc] _ _ rfl bk2 Tryz.underlying66 rfl inf6) rfl ?_
    exact ⟨rfl, below2 _ _ _⟩
  by_cases h8 : o = 8
  · subst h8
    have e : mv p m (⟨8, x, y, mn, mx, (sa, sl, sc)⟩ : Is SV) = ⟨8, x, y + p, mn, mx, (sa, sl, sc)⟩ := by simp [mv]
    rw [e, agg6, sv]
    clear e
    go_enter Tryz.func103, Tryz.ntmps103
    go_wp2
    refine bodyPost_ret (results_cell_row Tryz.results103 _ _ (w.heap.size + 1) _ #[.int .i64 (8), .int .i64 (x), .int .i64 (y + p), .int .i64 mn, .int .i64 mx, .slice sa sl sc] _ _ rfl bk2 Tryz.underlying66 rfl inf6) rfl ?_
    exact ⟨rfl, below2 _ _ _⟩
  by_cases h9 : o = 9
  · subst h9
    have e : mv p m (⟨9, x, y, mn, mx, (sa, sl, sc)⟩ : Is SV) = ⟨9, x, y + p, mn, mx, (sa, sl, sc)⟩ := by simp [mv]
    rw [e, agg6, sv]
    clear e
    go_enter Tryz.func103, Tryz.ntmps103
    go_wp2
    refine bodyPost_ret (results_cell_row Tryz.results103 _ _ (w.heap.size + 1) _ #[.int .i64 (9), .int .i64 (x), .int .i64 (y + p), .int .i64 mn, .int .i64 mx, .slice sa sl sc] _ _ rfl bk2 Tryz.underlying66 rfl inf6) rfl ?_
    exact ⟨rfl, below2 _ _ _⟩
  have e : mv p m (⟨o, x, y, mn, mx, (sa, sl, sc)⟩ : Is SV) = ⟨o, x, y, mn, mx, (sa, sl, sc)⟩ := by simp [mv, h2, h3, h10, h11, h8, h9]
  rw [e, agg6, sv]
  have f2 : (o == 2) = false := by simpa using h2
  have f3 : (o == 3) = false := by simpa using h3
  have f10 : (o == 10) = false := by simpa using h10
  have f11 : (o == 11) = false := by simpa using h11
  have f8 : (o == 8) = false := by simpa using h8
  have f9 : (o == 9) = false := by simpa using h9
  clear e h2 h3 h10 h11 h8 h9
  go_enter Tryz.func103, Tryz.ntmps103
  go_wp2
  refine bodyPost_ret (results_cell_row Tryz.results103 _ _ (w.heap.size + 1) _ #[.int .i64 o, .int .i64 x, .int .i64 y, .int .i64 mn, .int .i64 mx, .slice sa sl sc] _ _ rfl bk2 Tryz.underlying66 rfl inf6) rfl ?_
  exact ⟨rfl, below2 _ _ _⟩
set_option maxRecDepth 10000 in
set_option maxHeartbeats 4000000 in
theorem one_any (i : Is SV) (w : World) : Calls Tryz.prog 83 #[agg6 i] w fun e w' => ∃ g, e = .returned (.agg #[.slice (some ⟨g, 0, none⟩) 1 1, .int .i64 0]) ∧ CR w' (some ⟨g, 0, none⟩) [i] ∧ w.heap.size ≤ g ∧ Below w.heap.size w w' := by
  obtain ⟨o, x, y, mn, mx, sa, sl, sc⟩ := i
  rw [agg6, sv]
  simp only
  go_enter Tryz.func83, Tryz.ntmps83
  go_wp2
  refine bodyPost_ret (results_cell_row Tryz.results83 _ _ (w.heap.size + 1) _ #[.slice (some ⟨w.heap.size + 1 + 1, 0, none⟩) 1 1, .int .i64 0] _ _ rfl (bk2.past _) Tryz.underlying55 rfl infP) rfl ?_
  exact ⟨w.heap.size + 1 + 1, rfl, cr_bk (by have := Bk.new ((w.alloc (.cells #[.int .i64 o, .int .i64 x, .int .i64 y, .int .i64 mn, .int .i64 mx, .slice sa sl sc] 66)).alloc (.cells #[.slice (some ⟨w.heap.size + 1 + 1, 0, none⟩) 1 1, .int .i64 0] 55)) #[.int .i64 o, .int .i64 x, .int .i64 y, .int .i64 mn, .int .i64 mx, .slice sa sl sc] 66; simpa using this), by omega, ((below2 _ _ _).trans (((Below.refl _ _).alloc (Nat.le_refl _) _).mono (by simp; omega)))⟩
end Go.Proofs.YtjbcapnpknbbaaaGreat.cmp
end

section
/- (*piece).add: a piece behind another one. -/
set_option linter.unusedVariables false
set_option linter.unusedSimpArgs false
namespace Go.Proofs.YtjbcapnpknbbaaaGreat.cmp
open Go.RowKit nod
open Go.Proofs.YtjbcapnpknbbaaaGreat.rng (R RV info_parts)

/-- A piece whose places, and marks, are near. -/
def FitP {α : Type} (p : Pc α) : Prop := 0 ≤ p.2 ∧ p.2 ≤ p.1.length ∧ ∀ i ∈ p.1, 0 ≤ i.x ∧ i.x ≤ p.1.length + 1000000 ∧ 0 ≤ i.y ∧ i.y ≤ p.1.length + 1000000
theorem takeI {l : List (Is SV)} {k : Nat} {i : Is SV} (h : l[k]? = some i) : l.take (k + 1) = l.take k ++ [i] := by
  rw [List.take_add_one, h]; rfl
theorem getI {l : List (Is SV)} {n k : Nat} (h : l.length = n) (hk : k < n) : ∃ i, l[k]? = some i := by subst h; exact ⟨_, List.getElem?_eq_getElem hk⟩
set_option maxRecDepth 10000 in
set_option maxHeartbeats 8000000 in
theorem add_any (pb : Nat) (p : Pc SV) (G : Option Nat) (ka : Option Addr) (kn kc : Nat) (km : Int) (lk : List (Is SV)) (w : World) (hp : PS w w pb G p) (hl : lk.length = kn) (hv : CR w ka lk) (hne : ∀ x, ka = some x → x.block < w.heap.size ∧ x.block ≠ pb ∧ some x.block ≠ G)
    (hF : FitP (lk, km)) (hF2 : FitP p) (hb : p.1.length + kn ≤ 1000000) :
    Calls Tryz.prog 97 #[.pointer (some ⟨pb, 0, none⟩), .agg #[.slice ka kn kc, .int .i64 km]] w fun e w' => e = .returned (.tuple #[]) ∧ PS w w' pb G (addP p (lk, km)) := by
  have hpb := hp.lt
  have HP1 := hp.alloc (.cells #[.slice ka kn kc, .int .i64 km] 55)
  obtain ⟨G', HP2, hG1, hG2⟩ := HP1.again
  obtain ⟨v, bk, hown, _⟩ := HP2.row
  obtain ⟨av, cv, rfl, _, _, _, _⟩ := own_cr hown rfl
  obtain ⟨pl, pm⟩ := p
  simp only at bk hown hb
  obtain ⟨n0, hn0⟩ : ∃ n0, pl.length = n0 := ⟨_, rfl⟩
  obtain ⟨q1, q2, q3⟩ := hF2
  obtain ⟨r1, r2, r3⟩ := hF
  simp only at q1 q2 r1 r2
  rw [hn0] at bk hb q2
  rw [hl] at r2
  have HPL : Hid (pl.length = n0) := hn0
  have HLK : Hid (lk.length = kn) := hl
  have HR3 : Hid (∀ i ∈ lk, 0 ≤ i.x ∧ i.x ≤ lk.length + 1000000 ∧ 0 ≤ i.y ∧ i.y ≤ lk.length + 1000000) := r3
  have x0 := bk.cell 0 (u := .slice av n0 cv) rfl
  have x1 := bk.cell 1 (u := .int .i64 pm) rfl
  have HBX : Hid (Bk (w.alloc (.cells #[.slice ka kn kc, .int .i64 km] 55)) w.heap.size #[.slice ka kn kc, .int .i64 km] 55) := Bk.new w _ _
  have hbp : w.heap.size ≠ pb := by omega
  have HGB : Hid (some w.heap.size ≠ G') := hG2 _ _ _ HBX.out (by decide)
  have HCK : Hid (CR (w.alloc (.cells #[.slice ka kn kc, .int .i64 km] 55)) ka lk) := hv.below ((Below.refl _ w).alloc (Nat.le_refl _) _)
  have HNE : Hid (∀ x, ka = some x → x.block ≠ pb ∧ some x.block ≠ G') := fun x e => by
    obtain ⟨a1, a2, a3⟩ := hne x e
    refine ⟨a2, fun e' => ?_⟩
    rcases hG1 _ e'.symm with h | h
    · exact a3 h
    · omega
  have HS : Hid (PS (w.alloc (.cells #[.slice ka kn kc, .int .i64 km] 55)) (w.alloc (.cells #[.slice ka kn kc, .int .i64 km] 55)) pb G' (pl ++ (lk.take 0).map (mv (n0 : Int) pm), pm)) := by unfold Hid; simpa using HP2
  have HA : Hid (addP (pl, pm) (lk, km) = (pl ++ lk.map (mv (n0 : Int) pm), pm + km)) := by unfold Hid addP; rw [HPL.out]
  rw [HA.out]
  have HFin : Hid (∀ W q, PS (w.alloc (.cells #[.slice ka kn kc, .int .i64 km] 55)) W pb G' q → PS w W pb G q) := fun W q h => HP1.then hG1 h
  have hz : (w.alloc (.cells #[.slice ka kn kc, .int .i64 km] 55)).heap.size = w.heap.size + 1 := by simp
  obtain ⟨w1, hw1⟩ : ∃ w1, w.alloc (.cells #[.slice ka kn kc, .int .i64 km] 55) = w1 := ⟨_, rfl⟩
  have HW1 : Hid (w.alloc (.cells #[.slice ka kn kc, .int .i64 km] 55) = w1) := hw1
  rw [hw1] at HS HFin HCK HBX hz
  clear hw1 hv hne hp hown bk hG1 hG2 HP1 HP2 hn0 hl r3 q3
  go_enter Tryz.func97, Tryz.ntmps97
  go_wp2
  go_quiet (fail)
  rw [HW1.out]
  clear x0 x1
  have b0 := HBX.out.cell 0 (u := .slice ka kn kc) rfl
  go_wp2
  go_loopg [20] kn (fun gk i wr => ∃ (j : Nat), j + gk = kn ∧ i = .int .i64 j ∧ Hid (PS w1 wr pb G' (pl ++ (lk.take j).map (mv (n0 : Int) pm), pm)))
  case atStart => exact ⟨0, by omega, rfl, HS.out.drewN _⟩
  case round =>
    obtain ⟨j, hj, rfl, HSr⟩ := hrel
    clear HS b0
    by_cases hlt : j < kn
    · obtain ⟨i, hi⟩ := getI HLK.out hlt
      obtain ⟨b, off, rfl, hc⟩ := (HSr.out.cr HCK.out HNE.out).pos (by have := HLK.out; omega)
      have h6 := hc j i hi
      have m6 := HR3.out i (List.mem_of_getElem? hi)
      have HT : Hid ((pl ++ (lk.take (j + 1)).map (mv (n0 : Int) pm), pm) = putP (pl ++ (lk.take j).map (mv (n0 : Int) pm), pm) [mv (n0 : Int) pm i]) := by unfold Hid putP; rw [takeI hi, List.map_append, List.append_assoc]; rfl
      have hlen : (pl ++ (lk.take j).map (mv (n0 : Int) pm)).length ≤ 1000000 := by
        rw [List.length_append, List.length_map, List.length_take, HPL.out]; omega
      have HLN : Hid ((pl ++ (lk.take j).map (mv (n0 : Int) pm)).length ≤ 1000000) := hlen
      have HZ := HLK.out
      rw [HZ] at m6
      obtain ⟨⟨jo, jx, jy, jmn, jmx, jsa, jsl, jsc⟩, hq⟩ : ∃ q, mv (n0 : Int) pm i = q := ⟨_, rfl⟩
      rw [hq] at HT
      have C1 := moved_any i n0 pm (wr.alloc (.cells #[.int .i64 i.op, .int .i64 i.x, .int .i64 i.y, .int .i64 i.mn, .int .i64 i.mx, .slice i.set.1 i.set.2.1 i.set.2.2] 66)) (by omega) (by omega) (by omega) (by omega)
      rw [hq] at C1
      have y0 := h6.c0
      have y1 := h6.c1
      have y2 := h6.c2
      have y3 := h6.c3
      have y4 := h6.c4
      have y5 := h6.c5
      obtain ⟨io, ix, iy, imn, imx, isa, isl, isc⟩ := i
      rw [agg6, agg6, sv, sv] at C1
      simp only at C1 y0 y1 y2 y3 y4 y5
      generalize pl ++ (lk.take j).map (mv (n0 : Int) pm) = Q at *
      have HSa : Hid (PS w1 (wr.alloc (.cells #[.int .i64 io, .int .i64 ix, .int .i64 iy, .int .i64 imn, .int .i64 imx, .slice isa isl isc] 66)) pb G' (Q, pm)) := HSr.out.alloc _
      clear h6 hc hq m6 hi HZ hlen HSr
      go_wp2_with (first
        | (go_at_call 103; refine C1.mono ?_; rintro e w2 ⟨rfl, dd⟩; have C2 := put_ps (HSa.out.on dd |>.alloc (.cells #[.int .i64 jo, .int .i64 jx, .int .i64 jy, .int .i64 jmn, .int .i64 jmx, .slice jsa jsl jsc] 66)) (some ⟨w2.heap.size, 0, none⟩) 1 1 [⟨jo, jx, jy, jmn, jmx, (jsa, jsl, jsc)⟩] rfl (cr_bk (Bk.new w2 _ _)) (fun e => by cases e) (by have := HLN.out; simp only; omega); clear dd C1)
        | (go_at_call 56; refine C2.mono ?_; rintro e w3 ⟨rfl, h3⟩; have HS3 : Hid (PS w1 w3 pb G' (putP (Q, pm) [⟨jo, jx, jy, jmn, jmx, (jsa, jsl, jsc)⟩])) := h3; clear h3 C2))
      go_roundg (gk - 1)
      case measure => omega
      case rel => exact ⟨j + 1, by omega, by go_num, by unfold Hid; rw [HT.out]; exact HS3.out⟩
    · obtain rfl : j = kn := by omega
      have htk : lk.take j = lk := List.take_of_length_le (by have := HLK.out; omega)
      rw [htk] at HSr
      obtain ⟨v2, bk2', hown2, hx2⟩ := HSr.out.row
      have z1 := bk2'.cell 1 (u := .int .i64 pm) rfl
      have zf := bk2'.frozen 1
      have b1 := (HSr.out.bk HBX.out hbp HGB.out).cell 1 (u := .int .i64 km) rfl
      have HE : Hid (PS w (wr.setCell ⟨pb, 1, none⟩ (.int .i64 (pm + km))) pb G (pl ++ lk.map (mv (n0 : Int) pm), pm + km)) := HFin.out _ _ (HSr.out.marks _)
      have hwp : IntKind.i64.wrap (pm + km) = pm + km := by rw [IntKind.wrap_i64]; omega
      clear htk HSr HA hx2 hown2 bk2'
      go_upto_region 7 with fail
      go_region
      try go_wp2
      go_end0
      refine ⟨rfl, ?_⟩
      exact HE.out.drewN _
end Go.Proofs.YtjbcapnpknbbaaaGreat.cmp
end

section
/- Pieces as values, add at any stand, row. -/
set_option linter.unusedVariables false
set_option linter.unusedSimpArgs false
namespace Go.Proofs.YtjbcapnpknbbaaaGreat.cmp
open Go.RowKit nod
open Go.Proofs.YtjbcapnpknbbaaaGreat.rng (R RV info_parts)

theorem fit_zero {α : Type} : FitP (([], 0) : Pc α) := ⟨Int.le_refl _, by simp, fun i h => by cases h⟩
theorem mv_fit {α : Type} (p m : Int) (i : Is α) (hp : 0 ≤ p) (hm : 0 ≤ m) (K N : Int) (hK : 0 ≤ K) (h : 0 ≤ i.x ∧ i.x ≤ K ∧ 0 ≤ i.y ∧ i.y ≤ K) (h1 : K + p ≤ N) (h2 : K + m ≤ N) : 0 ≤ (mv p m i).x ∧ (mv p m i).x ≤ N ∧ 0 ≤ (mv p m i).y ∧ (mv p m i).y ≤ N := by
  unfold mv
  split
  · simp only; omega
  split
  · simp only; omega
  split
  · simp only; omega
  split
  · simp only; omega
  split
  · simp only; omega
  · omega
theorem fit_add {α : Type} {a b : Pc α} (ha : FitP a) (hb : FitP b) : FitP (addP a b) := by
  obtain ⟨a1, a2, a3⟩ := ha
  obtain ⟨b1, b2, b3⟩ := hb
  refine ⟨by simp only [addP]; omega, by rw [len_addP]; simp only [addP]; omega, fun i hi => ?_⟩
  rw [len_addP]
  simp only [addP, List.mem_append, List.mem_map] at hi
  rcases hi with hi | ⟨x, hx, rfl⟩
  · have := a3 i hi; omega
  · have := b3 x hx
    exact mv_fit _ _ x (by omega) a1 (b.1.length + 1000000) _ (by omega) this (by omega) (by omega)
theorem fit_put {α : Type} {a : Pc α} {l : List (Is α)} (ha : FitP a) (hl : ∀ i ∈ l, 0 ≤ i.x ∧ i.x ≤ a.1.length + l.length + 1000000 ∧ 0 ≤ i.y ∧ i.y ≤ a.1.length + l.length + 1000000) : FitP (putP a l) := by
  obtain ⟨a1, a2, a3⟩ := ha
  refine ⟨a1, by simp only [putP, List.length_append]; omega, fun i hi => ?_⟩
  simp only [putP, List.length_append, List.mem_append] at hi ⊢
  rcases hi with hi | hi
  · have := a3 i hi; omega
  · have := hl i hi; omega
theorem fit_row {α : Type} : ∀ {l : List (Pc α)}, (∀ p ∈ l, FitP p) → FitP (rowP l)
  | [], _ => fit_zero
  | x :: l, h => by rw [rowP_cons]; exact fit_add (h x (by simp)) (fit_row fun p hp => h p (by simp [hp]))
theorem len_rowP {α : Type} : ∀ l : List (Pc α), (rowP l).1.length = lensP l
  | [] => rfl
  | x :: l => by rw [rowP_cons, len_addP, len_rowP l]; simp [lensP]
theorem lens_take {α : Type} : ∀ (l : List (Pc α)) (j : Nat), lensP (l.take j) ≤ lensP l
  | [], j => by simp [lensP]
  | x :: l, 0 => by simp [lensP]
  | x :: l, j + 1 => by have := lens_take l j; simp only [lensP, List.take_succ_cons, List.map_cons, List.sum_cons] at *; omega

/-- The piece's row does not lie in block b. -/
def Far (w : World) (pb b : Nat) : Prop := ∀ v m, Bk w pb #[v, m] 55 → v.ownBlock ≠ some b
theorem far_old {w0 w : World} {pb b : Nat} {G : Option Nat} {p : Pc SV} (h : PS w0 w pb G p) (hb : b < w0.heap.size) (hG : some b ≠ G) : Far w pb b := fun v m hv e => by
  obtain ⟨v', b', _, hx⟩ := h.row
  unfold Bk at hv b'
  rw [b'] at hv
  obtain rfl : v' = v := by simp at hv; exact hv.1
  rcases hx b e with h1 | h1
  · exact hG h1
  · omega
theorem far_new {w0 w w' : World} {pb b : Nat} {G : Option Nat} {p : Pc SV} (h : PS w0 w pb G p) (hb : Below w.heap.size w w') (hl : w.heap.size ≤ b) : Far w' pb b := fun v m hv e => by
  obtain ⟨v', b', o, hx⟩ := h.row
  have b2 := b'.on hb
  unfold Bk at hv b2
  rw [b2] at hv
  obtain rfl : v' = v := by simp at hv; exact hv.1
  have := (o.lt _ e).2
  omega
theorem add_ps {w0 w : World} {pb : Nat} {p : Pc SV} {G : Option Nat} (hp : PS w0 w pb G p) (ka : Option Addr) (kn kc : Nat) (km : Int) (lk : List (Is SV)) (hl : lk.length = kn) (hv : CR w ka lk) (hne : ∀ x, ka = some x → x.block < w.heap.size ∧ x.block ≠ pb ∧ Far w pb x.block)
    (hF : FitP (lk, km)) (hF2 : FitP p) (hb : p.1.length + kn ≤ 1000000) :
    Calls Tryz.prog 97 #[.pointer (some ⟨pb, 0, none⟩), .agg #[.slice ka kn kc, .int .i64 km]] w fun e w' => e = .returned (.tuple #[]) ∧ PS w0 w' pb G (addP p (lk, km)) := by
  obtain ⟨v, b, o, hx⟩ := hp.row
  have h1 : PS w w pb v.ownBlock p := ⟨⟨v, b, o, fun x e => .inl e.symm⟩, Kq.refl _ _, b.lt⟩
  exact (add_any pb p v.ownBlock ka kn kc km lk w h1 hl hv (fun x e => ⟨(hne x e).1, (hne x e).2.1, fun f => (hne x e).2.2 v _ b f.symm⟩) hF hF2 hb).mono fun e w' ⟨he, h⟩ => ⟨he, hp.then hx h⟩

/-- A piece as a value: where its row lies, how long it is, its room. -/
structure Pp where
  ka : Option Addr
  kn : Nat
  kc : Nat
  p : Pc SV
/-- It can be read, and its row lies from block lo on. -/
structure PV (w : World) (lo : Nat) (q : Pp) : Prop where
  len : q.p.1.length = q.kn
  cr : CR w q.ka q.p.1
  at_ : ∀ x, q.ka = some x → lo ≤ x.block ∧ x.block < w.heap.size
  fit : FitP q.p
theorem PV.on {w w' : World} {lo : Nat} {q : Pp} (h : PV w lo q) (hb : Below w.heap.size w w') : PV w' lo q := ⟨h.len, h.cr.below hb, fun x e => ⟨(h.at_ x e).1, Nat.lt_of_lt_of_le (h.at_ x e).2 hb.size⟩, h.fit⟩
theorem PV.wide {w : World} {lo lo' : Nat} {q : Pp} (h : PV w lo q) (hl : lo' ≤ lo) : PV w lo' q := ⟨h.len, h.cr, fun x e => ⟨Nat.le_trans hl (h.at_ x e).1, (h.at_ x e).2⟩, h.fit⟩
theorem PV.set {w : World} {lo b : Nat} {q : Pp} (h : PV w lo q) (hb : b < lo) (i : Nat) (u : Value) : PV (w.setCell ⟨b, i, none⟩ u) lo q :=
  ⟨h.len, h.cr.keep fun b' off e _ _ => Below.heap_setCell _ _ _ _ (fun e2 => by have h1 := h.at_ _ e; simp only at h1 e2; omega), fun x e => ⟨(h.at_ x e).1, by simpa [World.setCell] using (h.at_ x e).2⟩, h.fit⟩
theorem PV.ps {w0 w : World} {pb : Nat} {G : Option Nat} {p : Pc SV} {q : Pp} (h : PS w0 w pb G p) (v : PV w0 0 q) (hn : ∀ x, q.ka = some x → x.block ≠ pb ∧ some x.block ≠ G) : PV w 0 q :=
  ⟨v.len, h.cr v.cr hn, fun x e => ⟨Nat.zero_le _, Nat.lt_of_lt_of_le (v.at_ x e).2 h.kq.size⟩, v.fit⟩
/-- The piece's row is one of the call's own. -/
def OR (w : World) (lo : Nat) (q : Pp) : Prop := w.ownsRow lo 66 6 (.slice q.ka q.kn q.kc) q.kn (flat6 q.p.1)
theorem own_base {w : World} {B B' e size n : Nat} {v : Value} {xs : List Value} (h : w.ownsRow B e size v n xs) (hb : ∀ y, v.ownBlock = some y → B' ≤ y) : w.ownsRow B' e size v n xs := by
  refine ⟨h.1, ?_⟩
  rcases h.2 with h | ⟨g, cap, cur, rfl, _, rest⟩
  · exact .inl h
  · exact .inr ⟨g, cap, cur, rfl, hb g rfl, rest⟩
theorem OR.wide {w : World} {lo lo' : Nat} {q : Pp} (h : OR w lo q) (hl : lo' ≤ lo) : OR w lo' q := own_base h (fun y e => Nat.le_trans hl (h.lt y e).1)
theorem OR.set {w : World} {lo b : Nat} {q : Pp} (h : OR w lo q) (hb : b < lo) (i : Nat) (u : Value) : OR (w.setCell ⟨b, i, none⟩ u) lo q := by
  refine World.ownsRow.kept (row := some b) h ⟨rfl, rfl, rfl, by simp [World.setCell], fun k _ hk => Below.heap_setCell _ _ _ _ (fun e => hk (by rw [e]))⟩ ?_
  cases hob : (Value.slice q.ka q.kn q.kc).ownBlock with
  | none => exact .inl rfl
  | some y => exact .inr (fun e => by cases e; have := (h.lt _ hob).1; omega)
theorem OR.on {w w' : World} {lo : Nat} {q : Pp} (h : OR w lo q) (hb : Below w.heap.size w w') : OR w' lo q := rng.own_below' h hb
/-- What has been made, as a value. -/
theorem PS.outO {w0 w : World} {pb : Nat} {p : Pc SV} (h : PS w0 w pb none p) (hf : FitP p) : ∃ q : Pp, q.p = p ∧ Bk w pb #[.slice q.ka q.kn q.kc, .int .i64 p.2] 55 ∧ PV w w0.heap.size q ∧ OR w w0.heap.size q := by
  obtain ⟨v, b, o, hx⟩ := h.row
  obtain ⟨ao, cap, rfl, hcr, _, _, hxb⟩ := own_cr o rfl
  refine ⟨⟨ao, p.1.length, cap, p⟩, rfl, b, ⟨rfl, hcr, fun x e => ?_, hf⟩, own_base o (fun y e => ?_)⟩
  · have e2 := hxb x e
    rcases hx x.block e2.symm with h1 | h1
    · cases h1
    · exact ⟨h1, (o.lt _ e2.symm).2⟩
  · rcases hx y e with h1 | h1
    · cases h1
    · exact h1
theorem PS.out {w0 w : World} {pb : Nat} {p : Pc SV} (h : PS w0 w pb none p) (hf : FitP p) : ∃ q : Pp, q.p = p ∧ Bk w pb #[.slice q.ka q.kn q.kc, .int .i64 p.2] 55 ∧ PV w w0.heap.size q := by
  obtain ⟨q, h1, h2, h3, _⟩ := h.outO hf
  exact ⟨q, h1, h2, h3⟩
/-- A row of pieces that can be read. -/
def LV (w : World) (la : Option Addr) (L : List Pp) : Prop := L = [] ∨ ∃ b off, la = some ⟨b, off, none⟩ ∧ b < w.heap.size ∧ ∀ k q, L[k]? = some q → w.cell? ⟨b, off + k * 2, none⟩ = some (.slice q.ka q.kn q.kc) ∧ w.cell? ⟨b, off + k * 2 + 1, none⟩ = some (.int .i64 q.p.2)
theorem LV.pos {w : World} {la : Option Addr} {L : List Pp} (h : LV w la L) (h0 : 0 < L.length) : ∃ b off, la = some ⟨b, off, none⟩ ∧ b < w.heap.size ∧ ∀ k q, L[k]? = some q → w.cell? ⟨b, off + k * 2, none⟩ = some (.slice q.ka q.kn q.kc) ∧ w.cell? ⟨b, off + k * 2 + 1, none⟩ = some (.int .i64 q.p.2) := by
  rcases h with rfl | h
  · simp at h0
  · exact h
theorem LV.keep {w w' : World} {la : Option Addr} {L : List Pp} (h : LV w la L) (hs : w.heap.size ≤ w'.heap.size) (hb : ∀ x, la = some x → x.block < w.heap.size → w'.heap[x.block]? = w.heap[x.block]?) : LV w' la L := by
  rcases h with h | ⟨b, off, e, hl, hc⟩
  · exact .inl h
  · refine .inr ⟨b, off, e, by omega, fun k q hk => ?_⟩
    obtain ⟨h1, h2⟩ := hc k q hk
    have := hb _ e hl
    exact ⟨(World.cell?_of_block (a := ⟨b, off + k * 2, none⟩) this).trans h1, (World.cell?_of_block (a := ⟨b, off + k * 2 + 1, none⟩) this).trans h2⟩
theorem LV.on {w w' : World} {la : Option Addr} {L : List Pp} (h : LV w la L) (hb : Below w.heap.size w w') : LV w' la L := h.keep hb.size fun x _ hl => hb.block _ hl
theorem LV.ps {w0 w : World} {pb : Nat} {G : Option Nat} {p : Pc SV} {la : Option Addr} {L : List Pp} (h : PS w0 w pb G p) (v : LV w0 la L) (hn : ∀ x, la = some x → x.block ≠ pb ∧ some x.block ≠ G) : LV w la L :=
  v.keep h.kq.size fun x e hl => h.kq.block _ hl (fun f => f.elim (hn x e).1 (hn x e).2)
theorem takeQ {l : List Pp} {k : Nat} {i : Pp} (h : l[k]? = some i) : l.take (k + 1) = l.take k ++ [i] := by
  rw [List.take_add_one, h]; rfl
theorem getQ {l : List Pp} {n k : Nat} (h : l.length = n) (hk : k < n) : ∃ i, l[k]? = some i := by subst h; exact ⟨_, List.getElem?_eq_getElem hk⟩
def ps (L : List Pp) : List (Pc SV) := L.map (·.p)

set_option maxRecDepth 10000 in
set_option maxHeartbeats 8000000 in
theorem row_own (la : Option Addr) (ln lc : Nat) (L : List Pp) (w : World) (hl : L.length = ln) (hv : LV w la L) (hq : ∀ q ∈ L, PV w 0 q) (hb : lensP (ps L) ≤ 1000000) (hln : ln ≤ 1000000000) :
    Calls Tryz.prog 82 #[.slice la ln lc] w fun e w' => ∃ q : Pp, e = .returned (.agg #[.slice q.ka q.kn q.kc, .int .i64 q.p.2]) ∧ q.p = rowP (ps L) ∧ PV w' w.heap.size q ∧ Below w.heap.size w w' ∧ OR w' w.heap.size q := by
  have HLL : Hid (L.length = ln) := hl
  have HB : Hid (lensP (ps L) ≤ 1000000) := hb
  have HS0 : Hid (PS ((w.alloc (.cells #[.slice none 0 0, .int .i64 0] 55)).alloc (.cells #[.slice none 0 0, .int .i64 0] 55)) ((w.alloc (.cells #[.slice none 0 0, .int .i64 0] 55)).alloc (.cells #[.slice none 0 0, .int .i64 0] 55)) (w.heap.size + 1) none (rowP (ps (L.take 0)))) := by
    have := PS.new (w.alloc (.cells #[.slice none 0 0, .int .i64 0] 55))
    simpa [Hid, ps, rowP] using this
  have HBW : Hid (Below w.heap.size w ((w.alloc (.cells #[.slice none 0 0, .int .i64 0] 55)).alloc (.cells #[.slice none 0 0, .int .i64 0] 55))) := below2 _ _ _
  have HR : Hid (Bk ((w.alloc (.cells #[.slice none 0 0, .int .i64 0] 55)).alloc (.cells #[.slice none 0 0, .int .i64 0] 55)) w.heap.size #[.slice none 0 0, .int .i64 0] 55) := (Bk.new w _ _).past _
  have HLV : Hid (LV ((w.alloc (.cells #[.slice none 0 0, .int .i64 0] 55)).alloc (.cells #[.slice none 0 0, .int .i64 0] 55)) la L) := hv.on (below2 _ _ _)
  have HQV : Hid (∀ q ∈ L, PV ((w.alloc (.cells #[.slice none 0 0, .int .i64 0] 55)).alloc (.cells #[.slice none 0 0, .int .i64 0] 55)) 0 q) := fun q h => (hq q h).on (below2 _ _ _)
  have HQB : Hid (∀ q ∈ L, ∀ x, q.ka = some x → x.block < w.heap.size) := fun q h x e => ((hq q h).at_ x e).2
  have HLB : Hid (∀ x, la = some x → L ≠ [] → x.block < w.heap.size) := fun x e h0 => by
    rcases hv with h | ⟨b, off, e2, hlt, _⟩
    · exact (h0 h).elim
    · rw [e] at e2; cases e2; exact hlt
  have hz : ((w.alloc (.cells #[.slice none 0 0, .int .i64 0] 55)).alloc (.cells #[.slice none 0 0, .int .i64 0] 55)).heap.size = w.heap.size + 1 + 1 := by simp
  obtain ⟨w1, hw1⟩ : ∃ w1, (w.alloc (.cells #[.slice none 0 0, .int .i64 0] 55)).alloc (.cells #[.slice none 0 0, .int .i64 0] 55) = w1 := ⟨_, rfl⟩
  have HW1 : Hid ((w.alloc (.cells #[.slice none 0 0, .int .i64 0] 55)).alloc (.cells #[.slice none 0 0, .int .i64 0] 55) = w1) := hw1
  rw [hw1] at HS0 HBW HR HLV HQV hz
  clear hw1 hv hq hb hl
  go_enter Tryz.func82, Tryz.ntmps82
  go_wp2
  rw [HW1.out]
  go_loopg [8] ln (fun gk i wr => ∃ (j : Nat), j + gk = ln ∧ i = .int .i64 j ∧ Hid (PS w1 wr (w.heap.size + 1) none (rowP (ps (L.take j)))))
  case atStart => exact ⟨0, by omega, rfl, HS0⟩
  case round =>
    obtain ⟨j, hj, rfl, HSr⟩ := hrel
    clear HS0
    by_cases hlt : j < ln
    · obtain ⟨q, hq⟩ := getQ HLL.out hlt
      have hmem := List.mem_of_getElem? hq
      have hne : L ≠ [] := fun e => by rw [e] at hmem; cases hmem
      obtain ⟨b, off, rfl, hbl, hc⟩ := (LV.ps HSr.out HLV.out (fun x e => ⟨by have := HLB.out x e hne; omega, fun e => by cases e⟩)).pos (by have := HLL.out; omega)
      obtain ⟨y0, y1⟩ := hc j q hq
      have HQ1 := PV.ps HSr.out (HQV.out q hmem) (fun x e => ⟨by have := HQB.out q hmem x e; omega, fun e => by cases e⟩)
      have HT : Hid (rowP (ps (L.take (j + 1))) = addP (rowP (ps (L.take j))) q.p) := by
        unfold Hid ps; rw [takeQ hq, List.map_append, rowP_append]; simp [rowP_cons, rowP_nil, addP_zero]
      have hl2 : (rowP (ps (L.take j))).1.length + q.kn ≤ 1000000 := by
        have h1 := HB.out
        have h2 := lens_take (ps L) (j + 1)
        rw [← len_rowP, show (ps L).take (j + 1) = ps (L.take (j + 1)) by simp [ps, List.map_take], HT.out, len_addP, HQ1.len] at h2
        omega
      have hf2 : FitP (rowP (ps (L.take j))) := fit_row fun p hp => by
        obtain ⟨q', h', rfl⟩ := List.mem_map.1 hp
        exact (HQV.out q' (List.mem_of_mem_take h')).fit
      have C := add_ps (HSr.out.alloc (.cells #[.slice q.ka q.kn q.kc, .int .i64 q.p.2] 55)) q.ka q.kn q.kc q.p.2 q.p.1 HQ1.len (HQ1.cr.below ((Below.refl _ wr).alloc (Nat.le_refl _) _)) (fun x e => ⟨by have := (HQ1.at_ x e).2; simp; omega, by have := HQB.out q hmem x e; omega, far_old (HSr.out.alloc _) (by have := HQB.out q hmem x e; omega) (fun e => by cases e)⟩) HQ1.fit hf2 hl2
      rw [show ((q.p.1, q.p.2) : Pc SV) = q.p from rfl, ← HT.out] at C
      clear hc hq hmem hne HSr HQ1 HT hl2 hf2
      go_wp2_with (go_at_call 97; refine C.mono ?_; rintro e w2 ⟨rfl, h2⟩; have HS2 : Hid (PS w1 w2 (w.heap.size + 1) none (rowP (ps (L.take (j + 1))))) := h2; clear h2 C)
      go_roundg (gk - 1)
      case measure => omega
      case rel => exact ⟨j + 1, by omega, by go_num, HS2⟩
    · obtain rfl : j = ln := by omega
      have htk : L.take j = L := List.take_of_length_le (by have := HLL.out; omega)
      rw [htk] at HSr
      have hfit : FitP (rowP (ps L)) := fit_row fun p hp => by
        obtain ⟨q', h', rfl⟩ := List.mem_map.1 hp
        exact (HQV.out q' h').fit
      obtain ⟨q, hqp, hbk, hpv, hor⟩ := HSr.out.outO hfit
      have HOR : Hid (OR wr w1.heap.size q) := hor
      have c0 := hbk.cell 0 (u := .slice q.ka q.kn q.kc) rfl
      have c1 := hbk.cell 1 (u := .int .i64 (rowP (ps L)).2) rfl
      have HRb := HSr.out.bk HR.out (by omega) (fun e => by cases e)
      have r0 := HRb.cell 0 (u := .slice none 0 0) rfl
      have r1 := HRb.cell 1 (u := .int .i64 0) rfl
      have f0 := HRb.frozen 0
      have f1 := HRb.frozen 1
      have HRH : Hid (Bk wr w.heap.size #[.slice none 0 0, .int .i64 0] 55) := HRb
      have HPV : Hid (q.p = rowP (ps L) ∧ PV wr w1.heap.size q) := ⟨hqp, hpv⟩
      have HKW : Hid (Below w.heap.size w wr) := HBW.out.trans (HSr.out.kq.below (by omega) (fun x s => by rcases s with s | s; omega; cases s))
      rw [← hqp] at c1
      clear htk HSr hfit hqp hbk hpv hor HRb
      go_wp2
      refine bodyPost_ret (results_cell_row Tryz.results82 _ _ w.heap.size _ #[.slice q.ka q.kn q.kc, .int .i64 q.p.2] _ _ rfl (HRH.out.set2 _ _) Tryz.underlying55 rfl infP) rfl ?_
      refine ⟨q, rfl, HPV.out.1, ?_, ?_, ((HOR.out.set (by omega) 0 _).set (by omega) 1 _).wide (by omega)⟩
      · exact ((HPV.out.2.set (by omega) 0 _).set (by omega) 1 _).wide (by omega)
      · exact (HKW.out.setCell (p := ⟨w.heap.size, 0, none⟩) (Nat.le_refl _) _).setCell (p := ⟨w.heap.size, 1, none⟩) (Nat.le_refl _) _
theorem row_any (la : Option Addr) (ln lc : Nat) (L : List Pp) (w : World) (hl : L.length = ln) (hv : LV w la L) (hq : ∀ q ∈ L, PV w 0 q) (hb : lensP (ps L) ≤ 1000000) (hln : ln ≤ 1000000000) :
    Calls Tryz.prog 82 #[.slice la ln lc] w fun e w' => ∃ q : Pp, e = .returned (.agg #[.slice q.ka q.kn q.kc, .int .i64 q.p.2]) ∧ q.p = rowP (ps L) ∧ PV w' w.heap.size q ∧ Below w.heap.size w w' :=
  (row_own la ln lc L w hl hv hq hb hln).mono fun _ _ ⟨q, h1, h2, h3, h4, _⟩ => ⟨q, h1, h2, h3, h4⟩
end Go.Proofs.YtjbcapnpknbbaaaGreat.cmp
end
