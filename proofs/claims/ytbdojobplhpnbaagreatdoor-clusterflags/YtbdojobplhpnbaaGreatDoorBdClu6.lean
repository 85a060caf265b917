/- Texts that the proof leans on, one behind the other. -/
import Derived.Test.YtbdojobplhpnbaaGreatDoorBdClu2
import Derived.Test.YtbdojobplhpnbaaGreatDoorBdMul1
import Derived.OwnWalk
import Derived.Laws.CopyOwn
import Derived.OrdersHeld
import Derived.Deep.RegionHeld3
import Derived.Test.YtbdojobplhpnbaaGreatDoorBdClu5
import Derived.Deep.QuietTactic
import Derived.BigQuiet

section
/- slices.Repeat of one number. -/
set_option linter.unusedVariables false
set_option linter.unusedSimpArgs false
namespace Go.Proofs.YtbdojobplhpnbaaGreatDoor.clu
open Go.RowKit Go.Maps
open Go.Proofs.YtbdojobplhpnbaaGreatDoor.lin Go.Proofs.YtbdojobplhpnbaaGreatDoor.prp

/-- A row whose first k places are filled. -/
def filled (x : Int) (k m : Nat) : List Value := List.replicate k (.int .i64 x) ++ List.replicate m (.int .i64 0)
theorem filled_len (x : Int) (k m : Nat) : (filled x k m).length = k + m := by unfold filled; rw [List.length_append, List.length_replicate, List.length_replicate]
theorem filled_splice (x : Int) (k m j : Nat) (hj : j ≤ m) : splice (filled x k m) k (List.replicate j (.int .i64 x)) = filled x (k + j) (m - j) := by
  unfold splice filled
  rw [List.take_append_of_le_length (by rw [List.length_replicate]; omega), List.take_of_length_le (by rw [List.length_replicate]; omega), List.length_replicate, List.drop_append, List.length_replicate, List.drop_eq_nil_of_le (by rw [List.length_replicate]; omega), List.nil_append, List.drop_replicate, ← List.append_assoc, List.replicate_append_replicate]
  congr 2
  omega
theorem cells_one {w : World} {B : Nat} {u : Value} (h : w.cell? ⟨B, 0, none⟩ = some u) : ∀ (j : Nat) (v : Value), [u][j]? = some v → w.cell? ((⟨B, 0, none⟩ : Addr).add j) = some v
  | 0, v, hv => by cases hv; rw [Addr.add_lit, Nat.zero_add]; exact h
  | k + 1, v, hv => by simp at hv
theorem filled_cell {w : World} {g k m j : Nat} {x : Int} {t : TypeId} (h : w.heap[g]? = some (.cells (filled x k m).toArray t (0, 0))) (hj : j ≤ k) : ∀ (i : Nat) (v : Value), (List.replicate j (Value.int .i64 x))[i]? = some v → w.cell? ((⟨g, 0, none⟩ : Addr).add i) = some v := by
  intro i v hv
  have hi : i < j := by
    have := (List.getElem?_eq_some_iff.1 hv).1
    rwa [List.length_replicate] at this
  rw [List.getElem?_replicate, if_pos hi] at hv
  rw [Addr.add_lit, Nat.zero_add, cell_of_row w g i _ _ _ h]
  unfold filled
  rw [List.getElem?_toArray, List.getElem?_append_left (by rw [List.length_replicate]; omega), List.getElem?_replicate, if_pos (by omega)]
  exact hv
theorem sizeInt : (Tryz.prog.info? 3).map (·.size) = some 1 := by kernel_rfl
theorem infoI : (Tryz.prog.info? 3).map (fun i => (i.zero, i.size, i.bytes)) = some (some (.int .i64 0), 1, 8) := by kernel_rfl
theorem made_ints (n : Nat) : (madeCells #[.int .i64 0] n).toList = List.replicate n (.int .i64 0) := by
  apply List.ext_getElem?
  intro i
  unfold madeCells
  simp only [List.getElem?_replicate]
  by_cases h : i < n
  · simp [h, Nat.mod_one]
  · simp [h]
set_option maxHeartbeats 4000000 in
set_option maxRecDepth 1000000 in
theorem repeat_any (B : Nat) (x : Int) (N : Nat) (w : World) (hc : w.cell? ⟨B, 0, none⟩ = some (.int .i64 x)) (h1 : 1 ≤ N) (hN : N ≤ 100) :
    Calls Tryz.prog 19 #[.slice (some ⟨B, 0, none⟩) 1 1, .int .i64 (N : Int)] w fun e w' => ∃ v, e = .returned v ∧ IOwn w' w.heap.size v (List.replicate N x) ∧ Below w.heap.size w w' := by
  obtain ⟨i0, hi, hz0, hz1, hz2⟩ := info_parts infoI
  have C := Tryz.bits_Mul 1 N (by decide) (by omega) w
  rw [Nat.one_mul, Nat.div_eq_of_lt (by omega), Nat.mod_eq_of_lt (by omega)] at C
  have C' : Calls Tryz.prog 44 #[.int .u64 1, .int .u64 (N : Int)] w fun e w' => e = .returned (.tuple #[.int .u64 0, .int .u64 (N : Int)]) ∧ w' = w := C
  have HC : Hid (w.cell? ⟨B, 0, none⟩ = some (.int .i64 x)) := hc
  have n1 : ¬ (N : Int) < 0 := by omega
  have n2 : IntKind.u64.wrap (N : Int) = (N : Int) := by rw [IntKind.wrap_u64]; omega
  have n3 : IntKind.i64.wrap (N : Int) = (N : Int) := by rw [IntKind.wrap_i64]; omega
  have n4 : ¬ (9223372036854775807 : Int) < (N : Int) := by omega
  clear C hc
  go_enter Tryz.func19, Tryz.ntmps19
  go_wp2_with fail
  refine C'.mono ?_
  rintro e w0 ⟨rfl, hw⟩
  rw [hw]
  clear C' hw w0
  go_wp2_with (refine wpList_make_full w rfl _ _ 22 rfl w.heap.size 3 i0 (.int .i64 0) 1 Tryz.underlying22 hi hz0 hz1 .i64 .i64 _ _ N rfl rfl rfl rfl (by rw [hz2]; omega) (by unfold maxLen; omega) (Nat.le_refl _) ?_)
  intro w1 hown1 hgrow1
  have HP1 : Hid (w1.heap[w.heap.size]? = some (.cells (filled x 0 N).toArray 3 (0, 0))) := by
    rcases hown1.2 with ⟨h0, _⟩ | ⟨g', c2, cur, hv, hg, hgh, h3, h4, h5, h6⟩
    · cases h0
    · cases hv
      have hfull : cur.toList.take (N * 1) = cur.toList := List.take_of_length_le (by rw [Array.length_toList, h5]; omega)
      rw [hfull] at h6
      have h7 : cur.toList = filled x 0 N := by
        rw [h6]
        rw [made_ints]
        rfl
      have : cur = (filled x 0 N).toArray := by rw [← h7]
      rw [this] at hgh
      exact hgh
  have HB1 : Below w.heap.size w w1 := Below.grown (Below.refl _ _) hgrow1 (Nat.le_refl _) (fun k e => by cases e)
  have hcB := cell_below HB1 HC.out
  have hge : w.heap.size ≤ w.heap.size := Nat.le_refl _
  clear hown1 hgrow1
  go_wp2_with (refine wpList_copy_splice rfl _ _ 22 22 rfl 3 Tryz.underlying22 sizeInt _ _ _ _ _ _ rfl rfl w.heap.size 0 (filled x 0 N) 3 HP1.out [.int .i64 x] ?p1 ?p2 ?p3 ?p4 w.heap.size w HB1 hge ?_)
  case p1 => show 1 = Nat.min 1 N; exact (Nat.min_eq_left h1).symm
  case p2 => first | exact fun _ => ⟨rfl, _, rfl, cells_one hcB⟩ | exact fun j v hv => by have q := cells_one hcB j v hv; rwa [Addr.add_lit, Nat.zero_add] at q
  case p3 => rw [filled_len]; simp; omega
  case p4 => intro u hu; simp at hu; subst hu; rfl
  intro w2 HP2 hb2
  have HP : Hid (w2.heap[w.heap.size]? = some (.cells (filled x 1 (N - 1)).toArray 3 (0, 0))) := by
    have q := HP2.out
    rw [show [Value.int .i64 x] = List.replicate 1 (.int .i64 x) from rfl, filled_splice x 0 N 1 h1] at q
    exact q
  have HB2 : Hid (Below w.heap.size w w2) := hb2
  clear HP1 HP2 hb2 HB1 hcB
  have g1 : goInt ([Value.int .i64 x].length : Int) = .int .i64 1 := rfl
  try rw [g1]
  go_wp2
  go_loopw [8] (fun i wr => ∃ k m : Nat, 1 ≤ k ∧ k + m = N ∧ i = .int .i64 (k : Int) ∧ Hid (wr.heap[w.heap.size]? = some (.cells (filled x k m).toArray 3 (0, 0))) ∧ Hid (Below w.heap.size w wr)) (fun i _ => N - (RowKit.intOf i).toNat)
  case atStart => exact ⟨1, N - 1, Nat.le_refl _, by omega, rfl, HP, HB2⟩
  case round =>
    clear HP HB2
    obtain ⟨k, m, hk, hkm, rfl, HP, HB⟩ := hrel
    by_cases hm : m = 0
    · have hlt : ¬ (k : Int) < (N : Int) := by omega
      have HF : Hid (IOwn wr w.heap.size (.slice (some ⟨w.heap.size, 0, none⟩) N N) (List.replicate N x)) := by
        unfold Hid IOwn
        subst hm
        rw [List.length_replicate, List.map_replicate]
        refine ⟨by rw [List.length_replicate]; omega, .inr ⟨w.heap.size, N, _, rfl, hge, HP.out, Nat.le_refl _, by unfold maxLen; omega, by rw [List.size_toArray, filled_len]; omega, ?_⟩⟩
        have : k = N := by omega
        rw [this]
        unfold filled
        simp
      clear HP
      go_wp2
      go_ret
      exact ⟨_, rfl, HF.out, HB.out⟩
    · have hlt : (k : Int) < (N : Int) := by omega
      obtain ⟨j, hj⟩ : ∃ j, Nat.min k m = j := ⟨_, rfl⟩
      have HJ : Hid (Nat.min k m = j) := hj
      have hj1 : j ≤ m := by rw [← hj]; exact Nat.min_le_right _ _
      have hj2 : j ≤ k := by rw [← hj]; exact Nat.min_le_left _ _
      have hj0 : 0 < j := by rw [← hj]; exact Nat.lt_min.2 ⟨by omega, by omega⟩
      have c1 : (k : Int) ≤ (N : Int) := by omega
      have c2 : (0 : Int) ≤ (k : Int) := by omega
      have c3 : ¬ N = k := by omega
      have c4 : ¬ N - k = 0 := by omega
      have c5 : N - k = m := by omega
      have wa : IntKind.i64.wrap ((k : Int) + (j : Int)) = (k : Int) + (j : Int) := by rw [IntKind.wrap_i64]; omega
      clear hj
      go_wp2
      refine wp_region_noPanic ?_
      refine wp_region_held_drew (S := fun _ => True) (by kernel_rfl) trivial (fun hHeld => ?_)
      refine wpAnyH_take (i := 0) (v := ?_) rfl (by kernel_rfl) (by kernel_rfl) (by kernel_rfl) (fun _ _ _ h => h) (Or.inl ⟨by rfl, ?_⟩) (by assumption) ?_
      rotate_left
      · (intro w' hSw; (try dsimp only at hSw); go_simp; try with_reducible rfl)
      try simp only [Act.put, List.getElem_toArray, List.getElem_cons_zero, List.getElem_cons_succ, List.setIfInBounds_toArray, List.set_cons_zero, List.set_cons_succ]
      refine wpAnyH_take (i := 1) (v := ?_) rfl (by kernel_rfl) (by kernel_rfl) (by kernel_rfl) (fun _ _ _ h => h) (Or.inl ⟨by rfl, ?_⟩) (by assumption) ?_
      rotate_left
      · (intro w' hSw; (try dsimp only at hSw); go_simp; try with_reducible rfl)
      try simp only [Act.put, List.getElem_toArray, List.getElem_cons_zero, List.getElem_cons_succ, List.setIfInBounds_toArray, List.set_cons_zero, List.set_cons_succ]
      refine wpAnyH_take (i := 2) (v := ?_) rfl (by kernel_rfl) (by kernel_rfl) (by kernel_rfl) (fun _ _ _ h => h) (Or.inl ⟨by rfl, ?_⟩) (by assumption) ?_
      rotate_left
      · (intro w' hSw; (try dsimp only at hSw); go_simp; try with_reducible rfl)
      try simp only [Act.put, List.getElem_toArray, List.getElem_cons_zero, List.getElem_cons_succ, List.setIfInBounds_toArray, List.set_cons_zero, List.set_cons_succ]
      refine wpAnyH_take (i := 3) (v := ?_) rfl (by kernel_rfl) (by kernel_rfl) (by kernel_rfl) (fun _ _ _ h => h) (Or.inl ⟨by rfl, ?_⟩) (by assumption) ?_
      rotate_left
      · (intro w' hSw; (try dsimp only at hSw); go_simp; try with_reducible rfl)
      try simp only [Act.put, List.getElem_toArray, List.getElem_cons_zero, List.getElem_cons_succ, List.setIfInBounds_toArray, List.set_cons_zero, List.set_cons_succ]
      refine wpAnyH_take (i := 4) (v := ?_) rfl (by kernel_rfl) (by kernel_rfl) (by kernel_rfl) (fun _ _ _ h => h) (Or.inl ⟨by rfl, ?_⟩) (by assumption) ?_
      rotate_left
      · (intro w' hSw; (try dsimp only at hSw); go_simp; try with_reducible rfl)
      try simp only [Act.put, List.getElem_toArray, List.getElem_cons_zero, List.getElem_cons_succ, List.setIfInBounds_toArray, List.set_cons_zero, List.set_cons_succ]
      refine wpAnyH_take (i := 5) (v := ?_) rfl (by kernel_rfl) (by kernel_rfl) (by kernel_rfl) (fun _ _ _ h => h) (Or.inl ⟨by rfl, ?_⟩) (by assumption) ?_
      rotate_left
      · (intro w' hSw; (try dsimp only at hSw); go_simp; try with_reducible rfl)
      try simp only [Act.put, List.getElem_toArray, List.getElem_cons_zero, List.getElem_cons_succ, List.setIfInBounds_toArray, List.set_cons_zero, List.set_cons_succ]
      refine wpAnyH_take (i := 6) (v := ?_) rfl (by kernel_rfl) (by kernel_rfl) (by kernel_rfl) (fun _ _ _ h => h) (Or.inl ⟨by rfl, ?_⟩) (by assumption) ?_
      rotate_left
      · (intro w' hSw; (try dsimp only at hSw); go_simp; try with_reducible rfl)
      try simp only [Act.put, List.getElem_toArray, List.getElem_cons_zero, List.getElem_cons_succ, List.setIfInBounds_toArray, List.set_cons_zero, List.set_cons_succ]
      refine wpAnyH_ready (rs := [7]) (by kernel_rfl) (by simp) ?_
      refine AllReadyH.cons (o := ({ dst := some 45, op := Op.call { callee := Callee.builtin Builtin.copy, args := #[Operand.tmp 41, Operand.tmp 44], argTypes := #[22, 22] }, type := 3, pos := "slices.go:528", after := #[{ on := 3, ground := Ground.data }, { on := 6, ground := Ground.data }], guard := none } : Oper)) rfl (fun K hK => ?_) AllReadyH.nil
      have bd : Below w.heap.size w wr.drew := HB.out.drew
      have HPd : Hid (wr.drew.heap[w.heap.size]? = some (.cells (filled x k m).toArray 3 (0, 0))) := HP.out
      refine step_copy_splice rfl (.tmp 41) (.tmp 44) 22 22 rfl 3 Tryz.underlying22 sizeInt _ _ _ _ _ _ rfl rfl w.heap.size k (filled x k m) 3 HPd.out (List.replicate j (.int .i64 x)) ?s1 ?s2 ?s3 ?s4 w.heap.size w bd hge ?_
      case s1 => rw [List.length_replicate]; exact HJ.out.symm
      case s2 => exact fun _ => ⟨rfl, _, rfl, filled_cell HPd.out hj2⟩
      case s3 => rw [filled_len, List.length_replicate]; omega
      case s4 => intro u hu; rw [(List.mem_replicate.1 hu).2]; rfl
      intro w3 HP3 hb3
      have HP4 : Hid (w3.heap[w.heap.size]? = some (.cells (filled x (k + j) (m - j)).toArray 3 (0, 0))) := by
        have q := HP3.out
        rw [filled_splice x k m j hj1] at q
        exact q
      have HB4 : Hid (Below w.heap.size w w3) := hb3
      have gj : goInt ((List.replicate j (Value.int .i64 x)).length : Int) = .int .i64 (j : Int) := by rw [List.length_replicate]; rfl
      rw [gj]
      refine hK.out _ _ trivial (fun hHeld2 => ?_)
      clear hK K hHeld HP HB HP3 hb3 HPd bd gj
      have hHeld := hHeld2
      clear hHeld2
      try simp only [Act.put, List.getElem_toArray, List.getElem_cons_zero, List.getElem_cons_succ, List.setIfInBounds_toArray, List.set_cons_zero, List.set_cons_succ]
      refine wpAnyH_take (i := 8) (v := ?_) rfl (by kernel_rfl) (by kernel_rfl) (by kernel_rfl) (fun _ _ _ h => h) (Or.inl ⟨by rfl, ?_⟩) (by assumption) ?_
      rotate_left
      · (intro w' hSw; (try dsimp only at hSw); go_simp; try with_reducible rfl)
      try simp only [Act.put, List.getElem_toArray, List.getElem_cons_zero, List.getElem_cons_succ, List.setIfInBounds_toArray, List.set_cons_zero, List.set_cons_succ]
      refine wpAnyH_take (i := 9) (v := ?_) rfl (by kernel_rfl) (by kernel_rfl) (by kernel_rfl) (fun _ _ _ h => h) (Or.inl ⟨by rfl, ?_⟩) (by assumption) ?_
      rotate_left
      · (intro w' hSw; (try dsimp only at hSw); go_simp; try with_reducible rfl)
      try simp only [Act.put, List.getElem_toArray, List.getElem_cons_zero, List.getElem_cons_succ, List.setIfInBounds_toArray, List.set_cons_zero, List.set_cons_succ]
      refine wpAnyH_done (by kernel_rfl) ?_ _
      refine NoPanic.normal ?_
      go_wp2
      exact ⟨⟨k + j, m - j, by omega, by omega, by go_num, HP4, HB4⟩, by simp [RowKit.intOf]; omega⟩
end Go.Proofs.YtbdojobplhpnbaaGreatDoor.clu
end

section
/- ClusterLines, ClusterFlags, ClusterMarks: the walks. -/
set_option linter.unusedVariables false
set_option linter.unusedSimpArgs false
namespace Go.Proofs.YtbdojobplhpnbaaGreatDoor.clu
open Go.RowKit Go.Maps
open Go.Proofs.YtbdojobplhpnbaaGreatDoor.lin Go.Proofs.YtbdojobplhpnbaaGreatDoor.prp

theorem below_drewN {B : Nat} {a w : World} (h : Below B a w) (q : Nat) : Below B a (w.drewN q) := ⟨h.os, h.tape, h.output, h.size, h.block⟩
theorem lit_iv (w : World) (x : Int) : IV (w.alloc (.cells #[.int .i64 x] 3)) (.slice (some ⟨w.heap.size, 0, none⟩) 1 1) [x] :=
  IOwn.iv (base := 0) (World.ownsRow_lit (base := 0) (e := 3) (size := 1) w #[.int .i64 x] 1 (Nat.zero_le _) (by unfold maxLen; omega) rfl)
theorem okI_small {x : Int} (h0 : 0 ≤ x) (h1 : x ≤ 1114111) : okI x := by unfold okI; omega
set_option maxHeartbeats 4000000 in
set_option maxRecDepth 1000000 in
theorem lines_walk (va : Value) (la : List Int) (vb : Value) (lb : List Int) (w : World) (ha : ArgC w va la) (hb : ArgC w vb lb) (E : CEnv w) : Calls Tryz.prog 6 #[va, vb] w fun e w' => e = .returned (.bool true) ∧ Below w.heap.size w w' := by
  have HE : Hid (CEnv w) := E
  have HA : Hid (ArgC w va la) := ha
  have HA2 : Hid (ArgC w vb lb) := hb
  obtain ⟨aa, ca, rfl, _, hoka, hcapa, hmaxa, hnila⟩ := ha
  obtain ⟨ab, cb, rfl, _, hokb, hcapb, hmaxb, hnilb⟩ := hb
  obtain ⟨n, hn⟩ : ∃ n, min la.length 30 = n := ⟨_, rfl⟩
  obtain ⟨m, hm⟩ : ∃ m, min lb.length 30 = m := ⟨_, rfl⟩
  have hnl : n ≤ la.length := by omega
  have hml : m ≤ lb.length := by omega
  have hn30 : n ≤ 30 := by omega
  have hm30 : m ≤ 30 := by omega
  have HV : Hid (IV w (.slice aa n ca) (la.take n)) := HA.out.take n hnl
  have HV2 : Hid (IV w (.slice ab m cb) (lb.take m)) := HA2.out.take m hml
  have HL : Hid ((la.take n).length = n) := by show _ = _; rw [List.length_take]; omega
  have HL2 : Hid ((lb.take m).length = m) := by show _ = _; rw [List.length_take]; omega
  have HOK : Hid (∀ x ∈ la.take n ++ [10] ++ lb.take m, okI x) := fun x hx => by
    rcases List.mem_append.1 hx with hx | hx
    · rcases List.mem_append.1 hx with hx | hx
      · exact hoka x (List.mem_of_mem_take hx)
      · rw [List.mem_singleton.1 hx]; exact okI_small (by decide) (by decide)
    · exact hokb x (List.mem_of_mem_take hx)
  have HNA : Hid (aa = none → n = 0 ∧ ca = 0) := fun e => by have := hnila e; exact ⟨by omega, this⟩
  have HNB : Hid (ab = none → m = 0 ∧ cb = 0) := fun e => by have := hnilb e; exact ⟨by omega, this⟩
  have hmin : min (la.length : Int) 30 = (n : Int) := by omega
  have hmin2 : (if (la.length : Int) < 30 then (la.length : Int) else 30) = (n : Int) := by split <;> omega
  have hmin3 : (if (30 : Int) < (la.length : Int) then 30 else (la.length : Int)) = (n : Int) := by split <;> omega
  have hmin4 : (if (la.length : Int) ≤ 30 then (la.length : Int) else 30) = (n : Int) := by split <;> omega
  have hminb : min (lb.length : Int) 30 = (m : Int) := by omega
  have hmin2b : (if (lb.length : Int) < 30 then (lb.length : Int) else 30) = (m : Int) := by split <;> omega
  have hmin3b : (if (30 : Int) < (lb.length : Int) then 30 else (lb.length : Int)) = (m : Int) := by split <;> omega
  have hmin4b : (if (lb.length : Int) ≤ 30 then (lb.length : Int) else 30) = (m : Int) := by split <;> omega
  have hncap : (n : Int) ≤ (ca : Int) := by omega
  have hmcap : (m : Int) ≤ (cb : Int) := by omega
  have hn0 : (0 : Int) ≤ (n : Int) := by omega
  have hm0 : (0 : Int) ≤ (m : Int) := by omega
  generalize la.take n = LA at *
  generalize lb.take m = LB at *
  generalize la.length = lla at *
  generalize lb.length = llb at *
  clear hoka hokb HA HA2 E hnila hnilb hn hm
  go_enter Tryz.func6, Tryz.ntmps6
  go_wp2_with fail
  go_quiet (fail)
  have HB0 : Hid (Below w.heap.size w (w.drewN nq)) := below_drewN (Below.refl _ w) _
  generalize w.drewN nq = w0 at HB0 ⊢
  have C := load_any w0 (HE.out.below HB0.out).env
  clear hmin hminb hmin2 hmin3 hmin4 hmin2b hmin3b hmin4b hncap hmcap hm0 hnl hml hcapa hcapb hmaxa hmaxb
  go_wp2_with fail
  refine C.mono ?_
  rintro e w1 ⟨t, rfl, ht, b1⟩
  clear C
  have HB1 : Hid (Below w.heap.size w w1) := HB0.out.trans (b1.mono HB0.out.size)
  have ba : Below w1.heap.size w1 (w1.alloc (.cells #[.int .i64 10] 3)) := (Below.refl _ w1).alloc (Nat.le_refl _) _
  obtain ⟨W, hW⟩ : ∃ W, W = (w1.alloc (.cells #[.int .i64 10] 3)).alloc (.cells #[.slice aa n ca, .slice (some ⟨w1.heap.size, 0, none⟩) 1 1, .slice ab m cb] 22) := ⟨_, rfl⟩
  have bb : Below (w1.alloc (.cells #[.int .i64 10] 3)).heap.size (w1.alloc (.cells #[.int .i64 10] 3)) W := by rw [hW]; exact (Below.refl _ _).alloc (Nat.le_refl _) _
  have bW : Below w1.heap.size w1 W := ba.trans (bb.mono ba.size)
  have HBW : Hid (Below w.heap.size w W) := HB1.out.trans (bW.mono HB1.out.size)
  have nb : W.heap[w1.heap.size + 1]? = some (.cells #[.slice aa n ca, .slice (some ⟨w1.heap.size, 0, none⟩) 1 1, .slice ab m cb] 22 (0, 0)) := by
    rw [hW]
    have := World.alloc_heap_new (w1.alloc (.cells #[.int .i64 10] 3)) (.cells #[.slice aa n ca, .slice (some ⟨w1.heap.size, 0, none⟩) 1 1, .slice ab m cb] 22)
    rwa [World.size_alloc] at this
  have HT : Hid (Tabs W t) := ht.below bW
  have C := concat_any (w1.heap.size + 1) n ca 1 1 m cb aa (some ⟨w1.heap.size, 0, none⟩) ab LA [10] LB W (cell_of_row W _ 0 _ _ _ nb) (cell_of_row W _ 1 _ _ _ nb) (cell_of_row W _ 2 _ _ _ nb) (HV.out.below HBW.out) ((lit_iv w1 10).below bb) (HV2.out.below HBW.out) HL.out rfl HL2.out HNA.out (fun e => by cases e) HNB.out (by omega)
  rw [hW] at C
  clear ba bb bW nb ht b1
  go_wp2_with fail
  refine C.mono ?_
  rintro e w2 ⟨lv, rfl, ho, b2⟩
  rw [← hW] at b2 ho
  clear C
  have hll : (LA ++ [10] ++ LB).length = n + 1 + m := by rw [List.length_append, List.length_append, HL.out, HL2.out]; rfl
  obtain ⟨xa, xc, rfl, htx⟩ := iown_txt ho hll HOK.out (by omega)
  have HTX : Hid (Txt w2 xa (n + 1 + m) xc (LA ++ [10] ++ LB)) := htx
  have HB2 : Hid (Below w.heap.size w w2) := HBW.out.trans (b2.mono HBW.out.size)
  have HT2 : Hid (Tabs w2 t) := HT.out.below b2
  have HEI : Hid (∀ (V : World) (i : Int), Below w2.heap.size w2 V → Calls Tryz.prog 12 #[.pointer (some ⟨t, 0, none⟩), .slice xa (n + 1 + m) xc, .int .i64 i] V fun e w' => e = .returned (.bool (edgeP (LA ++ [10] ++ LB) i)) ∧ Below V.heap.size V w') := fun V i hb => edge_t t xa _ xc _ i V (HT2.out.below hb) (HE.out.below (HB2.out.trans (hb.mono HB2.out.size))).syl (HTX.out.below hb)
  have HBH : Hid (edgeP (LA ++ [10] ++ LB) ((n : Int) + 1) = true) := by have := lines_behind LA LB; rw [HL.out] at this; exact this
  have HAW : Hid (∀ V, Below w2.heap.size w2 V → Calls Tryz.prog 15 #[] V fun e w' => e = .returned (.bool true) ∧ Below V.heap.size V w') := fun V hb => awake_any V (HE.out.below (HB2.out.trans (hb.mono HB2.out.size)))
  have wn1 : IntKind.i64.wrap ((n : Int) + 1) = (n : Int) + 1 := by rw [IntKind.wrap_i64]; omega
  clear hW ho b2 hll htx HBW HT HB0 HB1
  generalize n + 1 + m = NN at *
  rcases Nat.eq_zero_or_pos n with h0 | h0
  · have HF : Hid (edgeP (LA ++ [10] ++ LB) (n : Int) = true) := by
      have e : LA = [] := List.eq_nil_of_length_eq_zero (by rw [HL.out]; exact h0)
      unfold Hid
      rw [h0, e]
      exact lines_first LB
    have hgt : ¬ (0 : Int) < (n : Int) := by omega
    have C := HEI.out w2 (n : Int) (Below.refl _ _)
    rw [HF.out] at C
    clear HF h0
    go_wp2_with fail
    refine C.mono ?_
    rintro e w3 ⟨rfl, b3⟩
    clear C
    have HB3 : Hid (Below w2.heap.size w2 w3) := b3
    have C := HEI.out w3 ((n : Int) + 1) b3
    rw [HBH.out] at C
    clear b3
    go_wp2_with fail
    refine C.mono ?_
    rintro e w4 ⟨rfl, b4⟩
    clear C
    have HB4 : Hid (Below w2.heap.size w2 w4) := HB3.out.trans (b4.mono HB3.out.size)
    have C := HAW.out w4 HB4.out
    clear b4 HB3
    go_wp2_with fail
    refine C.mono ?_
    rintro e w5 ⟨rfl, b5⟩
    clear C
    have HB5 : Hid (Below w2.heap.size w2 w5) := HB4.out.trans (b5.mono HB4.out.size)
    clear b5 HB4
    go_wp2
    go_ret
    exact ⟨rfl, HB2.out.trans (HB5.out.mono HB2.out.size)⟩
  · obtain ⟨k, hk⟩ : ∃ k, n = k + 1 := ⟨n - 1, by omega⟩
    obtain ⟨hla, hat⟩ := iv_cells HV.out
    obtain ⟨x, b, o, rfl, cx0, hx⟩ := hat k (by omega)
    have cx := cell_below HB2.out cx0
    have HF : Hid (edgeP (LA ++ [10] ++ LB) (n : Int) = !(x == 13)) := by
      have e : LA = LA.take k ++ [x] := by
        have := List.take_append_drop k LA
        have hkl : k < LA.length := by omega
        rw [← List.take_of_length_le (show LA.length ≤ k + 1 by omega), List.take_add_one, hx, List.take_append_of_le_length (by rw [List.length_take]; omega), List.take_take, Nat.min_self]
        rfl
      have q := lines_ahead (LA.take k) LB x
      rw [← e, List.length_take, Nat.min_eq_left (by omega), ← hk] at q
      exact q
    have hgt : (0 : Int) < (n : Int) := by omega
    have wk : IntKind.i64.wrap ((n : Int) - 1) = (k : Int) := by rw [IntKind.wrap_i64]; omega
    have k1 : (0 : Int) ≤ (k : Int) := by omega
    have k2 : (k : Int) < (n : Int) := by omega
    have C := HEI.out w2 (n : Int) (Below.refl _ _)
    rw [HF.out] at C
    clear HF hat hla cx0 hx hk h0
    cases hq : (x == 13) with
    | true =>
      rw [hq] at C
      go_wp2_with fail
      refine C.mono ?_
      rintro e w3 ⟨rfl, b3⟩
      clear C
      have HB3 : Hid (Below w2.heap.size w2 w3) := b3
      have C := HEI.out w3 ((n : Int) + 1) b3
      rw [HBH.out] at C
      clear b3
      go_wp2_with fail
      refine C.mono ?_
      rintro e w4 ⟨rfl, b4⟩
      clear C
      have HB4 : Hid (Below w2.heap.size w2 w4) := HB3.out.trans (b4.mono HB3.out.size)
      have C := HAW.out w4 HB4.out
      clear b4 HB3
      go_wp2_with fail
      refine C.mono ?_
      rintro e w5 ⟨rfl, b5⟩
      clear C
      have HB5 : Hid (Below w2.heap.size w2 w5) := HB4.out.trans (b5.mono HB4.out.size)
      clear b5 HB4
      go_wp2
      go_ret
      exact ⟨rfl, HB2.out.trans (HB5.out.mono HB2.out.size)⟩
    | false =>
      rw [hq] at C
      go_wp2_with fail
      refine C.mono ?_
      rintro e w3 ⟨rfl, b3⟩
      clear C
      have HB3 : Hid (Below w2.heap.size w2 w3) := b3
      have C := HEI.out w3 ((n : Int) + 1) b3
      rw [HBH.out] at C
      clear b3
      go_wp2_with fail
      refine C.mono ?_
      rintro e w4 ⟨rfl, b4⟩
      clear C
      have HB4 : Hid (Below w2.heap.size w2 w4) := HB3.out.trans (b4.mono HB3.out.size)
      have C := HAW.out w4 HB4.out
      clear b4 HB3
      go_wp2_with fail
      refine C.mono ?_
      rintro e w5 ⟨rfl, b5⟩
      clear C
      have HB5 : Hid (Below w2.heap.size w2 w5) := HB4.out.trans (b5.mono HB4.out.size)
      clear b5 HB4
      go_wp2
      go_ret
      exact ⟨rfl, HB2.out.trans (HB5.out.mono HB2.out.size)⟩

theorem mod_twelve (x : Int) : ∃ k : Nat, k < 12 ∧ wrap64 ((IntKind.u64.wrap x).tmod 12) = (k : Int) := by
  have hu : 0 ≤ IntKind.u64.wrap x := by simp [IntKind.wrap, IntKind.signed, IntKind.bits]; omega
  rw [Int.tmod_eq_emod_of_nonneg hu]
  refine ⟨(IntKind.u64.wrap x % 12).toNat, by omega, ?_⟩
  have h1 : 0 ≤ IntKind.u64.wrap x % 12 := by omega
  have h2 : IntKind.u64.wrap x % 12 < 12 := by omega
  generalize IntKind.u64.wrap x % 12 = y at *
  unfold wrap64
  omega
set_option maxHeartbeats 4000000 in
set_option maxRecDepth 1000000 in
theorem flags_walk (r : Int) (w : World) (E : CEnv w) : Calls Tryz.prog 7 #[.int .i64 r] w fun e w' => e = .returned (.bool true) ∧ Below w.heap.size w w' := by
  have HE : Hid (CEnv w) := E
  have C := load_any w E.env
  obtain ⟨k, hk, hm⟩ := mod_twelve r
  obtain ⟨N, hN⟩ : ∃ N, N = k + 1 := ⟨_, rfl⟩
  have wN : IntKind.i64.wrap (1 + (k : Int)) = (N : Int) := by rw [IntKind.wrap_i64]; omega
  have wN2 : wrap64 (1 + (k : Int)) = (N : Int) := by unfold wrap64; omega
  have hN1 : 1 ≤ N := by omega
  have hN2 : N ≤ 12 := by omega
  have wn1 : IntKind.i64.wrap ((N : Int) + 1) = (N : Int) + 1 := by rw [IntKind.wrap_i64]; omega
  clear E hN hk
  go_enter Tryz.func7, Tryz.ntmps7
  go_wp2_with fail
  refine C.mono ?_
  rintro e w1 ⟨t, rfl, ht, b1⟩
  clear C
  clear hm wN wN2
  have ba : Below w1.heap.size w1 (w1.alloc (.cells #[.int .i64 127462] 3)) := (Below.refl _ w1).alloc (Nat.le_refl _) _
  have HB1 : Hid (Below w.heap.size w (w1.alloc (.cells #[.int .i64 127462] 3))) := b1.trans (ba.mono b1.size)
  have HT : Hid (Tabs (w1.alloc (.cells #[.int .i64 127462] 3)) t) := ht.below ba
  have C := repeat_any w1.heap.size 127462 N (w1.alloc (.cells #[.int .i64 127462] 3)) (by simp) hN1 (by omega)
  clear ba b1 ht
  go_wp2_with fail
  refine C.mono ?_
  rintro e w2 ⟨lv, rfl, ho, b2⟩
  clear C
  obtain ⟨xa, xc, rfl, htx⟩ := iown_txt ho (List.length_replicate) (fun x hx => by rw [(List.mem_replicate.1 hx).2]; exact okI_small (by decide) (by decide)) (by omega)
  have HTX : Hid (Txt w2 xa N xc (List.replicate N 127462)) := htx
  have HB2 : Hid (Below w.heap.size w w2) := HB1.out.trans (b2.mono HB1.out.size)
  have HT2 : Hid (Tabs w2 t) := HT.out.below b2
  have HEI : Hid (∀ (V : World) (i : Nat), i ≤ N → Below w2.heap.size w2 V → Calls Tryz.prog 12 #[.pointer (some ⟨t, 0, none⟩), .slice xa N xc, .int .i64 (i : Int)] V fun e w' => e = .returned (.bool (((i : Int) % 2 == 0) || ((i : Int) == (N : Int)))) ∧ Below V.heap.size V w') := fun V i hi hb => by
    have q := edge_t t xa _ xc _ (i : Int) V (HT2.out.below hb) (HE.out.below (HB2.out.trans (hb.mono HB2.out.size))).syl (HTX.out.below hb)
    rw [flag_edge hN1 hi] at q
    exact q
  clear ho b2 htx HT HB1
  go_wp2
  go_loopw [17] (fun i wr => ∃ j : Nat, j ≤ N + 1 ∧ i = .int .i64 (j : Int) ∧ Hid (Below w2.heap.size w2 wr)) (fun i _ => N + 1 - (RowKit.intOf i).toNat)
  case atStart => exact ⟨0, Nat.zero_le _, rfl, Below.refl _ _⟩
  case round =>
    obtain ⟨j, hj, rfl, HB⟩ := hrel
    by_cases hlt : j < N + 1
    · have hlt' : (j : Int) < (N : Int) + 1 := by omega
      have C := HEI.out wr j (by omega) HB.out
      have tm : Int.tmod (j : Int) 2 = (j : Int) % 2 := Int.tmod_eq_emod_of_nonneg (by omega)
      have wy : IntKind.i64.wrap ((j : Int) % 2) = (j : Int) % 2 := by rw [IntKind.wrap_i64]; omega
      cases q1 : ((j : Int) % 2 == 0) with
      | true =>
        rw [q1, Bool.true_or] at C
        go_wp2_with fail
        refine C.mono ?_
        rintro e w3 ⟨rfl, b3⟩
        clear C
        have HB3 : Hid (Below w2.heap.size w2 w3) := HB.out.trans (b3.mono HB.out.size)
        clear b3 HB
        go_wp2
        go_roundw
        case rel => exact ⟨j + 1, by omega, by go_num, HB3⟩
        case measure => simp [RowKit.intOf]; omega
      | false =>
        cases q2 : ((j : Int) == (N : Int)) with
        | true =>
          rw [q1, q2, Bool.false_or] at C
          go_wp2_with fail
          refine C.mono ?_
          rintro e w3 ⟨rfl, b3⟩
          clear C
          have HB3 : Hid (Below w2.heap.size w2 w3) := HB.out.trans (b3.mono HB.out.size)
          clear b3 HB
          go_wp2
          go_roundw
          case rel => exact ⟨j + 1, by omega, by go_num, HB3⟩
          case measure => simp [RowKit.intOf]; omega
        | false =>
          rw [q1, q2, Bool.false_or] at C
          go_wp2_with fail
          refine C.mono ?_
          rintro e w3 ⟨rfl, b3⟩
          clear C
          have HB3 : Hid (Below w2.heap.size w2 w3) := HB.out.trans (b3.mono HB.out.size)
          clear b3 HB
          go_wp2
          go_roundw
          case rel => exact ⟨j + 1, by omega, by go_num, HB3⟩
          case measure => simp [RowKit.intOf]; omega
    · have hge : ¬ (j : Int) < (N : Int) + 1 := by omega
      go_wp2
      go_ret
      exact ⟨rfl, HB2.out.trans (HB.out.mono HB2.out.size)⟩
end Go.Proofs.YtbdojobplhpnbaaGreatDoor.clu
end

section
/- ClusterMarks: the walk. -/
set_option linter.unusedVariables false
set_option linter.unusedSimpArgs false
namespace Go.Proofs.YtbdojobplhpnbaaGreatDoor.clu
open Go.RowKit Go.Maps
open Go.Proofs.YtbdojobplhpnbaaGreatDoor.lin Go.Proofs.YtbdojobplhpnbaaGreatDoor.prp

theorem mod_len (x : Int) (n : Nat) : ∃ k : Nat, k ≤ n ∧ Int.tmod (IntKind.u64.wrap x) ((n : Int) + 1) = (k : Int) := by
  have hu : 0 ≤ IntKind.u64.wrap x := by simp [IntKind.wrap, IntKind.signed, IntKind.bits]; omega
  have h1 : 0 ≤ IntKind.u64.wrap x % ((n : Int) + 1) := Int.emod_nonneg _ (by omega)
  have h2 : IntKind.u64.wrap x % ((n : Int) + 1) < (n : Int) + 1 := Int.emod_lt_of_pos _ (by omega)
  rw [Int.tmod_eq_emod_of_nonneg hu]
  generalize IntKind.u64.wrap x % ((n : Int) + 1) = y at *
  exact ⟨y.toNat, by omega, by omega⟩
/-- What stands from a place on. -/
theorem iv_drop {w : World} {ao : Option Addr} {n cap k : Nat} {l : List Int} (h : IV w (.slice ao n cap) l) (hk : k ≤ n) (hc : n ≤ cap) : IV w (.slice (if cap = k then ao else ao.map (·.add k)) (n - k) (cap - k)) (l.drop k) := by
  obtain ⟨hl, hat⟩ := iv_cells h
  have hll : (l.drop k).length = n - k := by rw [List.length_drop, hl]
  refine ⟨_, _, by rw [hll], fun h0 => ?_⟩
  rw [hll] at h0
  obtain ⟨x0, b, o, rfl, _, _⟩ := hat 0 (by omega)
  refine ⟨b, o + k, by rw [if_neg (by omega), Option.map_some, Addr.add_lit], fun j hj => ?_⟩
  rw [hll] at hj
  obtain ⟨x, b', o', e, hcell, hx⟩ := hat (k + j) (by omega)
  injection e with e
  injection e with e1 e2
  subst e1 e2
  rw [Nat.add_assoc, hcell, List.getD_eq_getElem?_getD, List.getElem?_drop, hx]
  rfl
set_option maxHeartbeats 4000000 in
set_option maxRecDepth 1000000 in
theorem marks_walk (va : Value) (la : List Int) (r : Int) (w : World) (ha : ArgC w va la) (E : CEnv w) : Calls Tryz.prog 8 #[va, .int .i64 r] w fun e w' => e = .returned (.bool true) ∧ Below w.heap.size w w' := by
  have HE : Hid (CEnv w) := E
  have HA : Hid (ArgC w va la) := ha
  obtain ⟨aa, ca, rfl, _, hoka, hcapa, hmaxa, hnila⟩ := ha
  obtain ⟨n, hn⟩ : ∃ n, min la.length 30 = n := ⟨_, rfl⟩
  have hnl : n ≤ la.length := by omega
  have hn30 : n ≤ 30 := by omega
  obtain ⟨k, hkn, hmod⟩ := mod_len r n
  have HV : Hid (IV w (.slice aa n ca) (la.take n)) := HA.out.take n hnl
  have HL : Hid ((la.take n).length = n) := by show _ = _; rw [List.length_take]; omega
  have HOK : Hid (∀ x ∈ la.take n, okI x) := fun x hx => hoka x (List.mem_of_mem_take hx)
  have HNA : Hid (aa = none → ca = 0) := hnila
  have hmin : min (la.length : Int) 30 = (n : Int) := by omega
  have hmin2 : (if (la.length : Int) < 30 then (la.length : Int) else 30) = (n : Int) := by split <;> omega
  have hmin3 : (if (30 : Int) < (la.length : Int) then 30 else (la.length : Int)) = (n : Int) := by split <;> omega
  have hmin4 : (if (la.length : Int) ≤ 30 then (la.length : Int) else 30) = (n : Int) := by split <;> omega
  have hncap : (n : Int) ≤ (ca : Int) := by omega
  have hn0 : (0 : Int) ≤ (n : Int) := by omega
  generalize la.take n = LA at *
  generalize la.length = lla at *
  have C := load_any w E.env
  have u1 : IntKind.i64.wrap ((n : Int) + 1) = (n : Int) + 1 := by rw [IntKind.wrap_i64]; omega
  have u2 : IntKind.u64.wrap ((n : Int) + 1) = (n : Int) + 1 := by rw [IntKind.wrap_u64]; omega
  have u3 : ((n : Int) + 1 == 0) = false := by rw [beq_eq_false_iff_ne]; omega
  have u3' : ¬ (n : Int) + 1 = 0 := by omega
  have u4 : IntKind.u64.wrap (k : Int) = (k : Int) := by rw [IntKind.wrap_u64]; omega
  have u5 : IntKind.i64.wrap (k : Int) = (k : Int) := by rw [IntKind.wrap_i64]; omega
  clear hoka HA E hnila hn
  go_enter Tryz.func8, Tryz.ntmps8
  go_wp2_with fail
  refine C.mono ?_
  rintro e w1 ⟨t, rfl, ht, b1⟩
  clear C
  have HB1 : Hid (Below w.heap.size w w1) := b1
  have HT1 : Hid (Tabs w1 t) := ht
  clear b1 ht hmin hmin2 hmin3 hmin4 hnl
  have k0 : (0 : Int) ≤ (k : Int) := by omega
  have k1 : (k : Int) ≤ (n : Int) := by omega
  have k2 : (k : Int) ≤ (ca : Int) := by omega
  obtain ⟨AO, hAO⟩ : ∃ AO, (if ca = k then aa else aa.map (·.add k)) = AO := ⟨_, rfl⟩
  go_wp2
  refine wp_region_noPanic ?_
  refine wp_region_held_drew (S := fun _ => True) (by kernel_rfl) trivial (fun hHeld => ?_)
  have B2 : Below w1.heap.size w1 w1.drew := (Below.refl _ w1).drew
  have HB2 : Hid (Below w.heap.size w w1.drew) := HB1.out.trans (B2.mono HB1.out.size)
  have HT2 : Hid (Tabs w1.drew t) := HT1.out.below B2
  clear B2 HB1 HT1
  generalize w1.drew = w2 at *
  refine wpAnyH_take (i := 0) (v := ?_) rfl (by kernel_rfl) (by kernel_rfl) (by kernel_rfl) (fun _ _ _ h => h) (Or.inl ⟨by rfl, ?_⟩) (by assumption) ?_
  rotate_left
  · (intro w' hSw; (try dsimp only at hSw); go_simp; try with_reducible rfl)
  try simp only [Act.put, List.getElem_toArray, List.getElem_cons_zero, List.getElem_cons_succ, List.setIfInBounds_toArray, List.set_cons_zero, List.set_cons_succ]
  refine wpAnyH_take (i := 1) (v := ?_) rfl (by kernel_rfl) (by kernel_rfl) (by kernel_rfl) (fun _ _ _ h => h) (Or.inl ⟨by rfl, ?_⟩) (by assumption) ?_
  rotate_left
  · (intro w' hSw; (try dsimp only at hSw); go_simp; try with_reducible rfl)
  try simp only [Act.put, List.getElem_toArray, List.getElem_cons_zero, List.getElem_cons_succ, List.setIfInBounds_toArray, List.set_cons_zero, List.set_cons_succ]
  refine wpAnyH_take (i := 2) (v := ?_) rfl (by kernel_rfl) (by kernel_rfl) (by kernel_rfl) (fun _ _ _ h => h) (Or.inl ⟨by rfl, ?_⟩) (by assumption) ?_
  rotate_left
  · (intro w' hSw; (try dsimp only at hSw); go_simp; try with_reducible rfl)
  try simp only [Act.put, List.getElem_toArray, List.getElem_cons_zero, List.getElem_cons_succ, List.setIfInBounds_toArray, List.set_cons_zero, List.set_cons_succ]
  refine wpAnyH_take (i := 4) (v := ?_) rfl (by kernel_rfl) (by kernel_rfl) (by kernel_rfl) (fun _ _ _ h => h) (Or.inl ⟨by rfl, ?_⟩) (by assumption) ?_
  rotate_left
  · (intro w' hSw; (try dsimp only at hSw); go_simp; try with_reducible rfl)
  try simp only [Act.put, List.getElem_toArray, List.getElem_cons_zero, List.getElem_cons_succ, List.setIfInBounds_toArray, List.set_cons_zero, List.set_cons_succ]
  refine wpAnyH_take (i := 5) (v := ?_) rfl (by kernel_rfl) (by kernel_rfl) (by kernel_rfl) (fun _ _ _ h => h) (Or.inl ⟨by rfl, ?_⟩) (by assumption) ?_
  rotate_left
  · (intro w' hSw; (try dsimp only at hSw); go_simp; try with_reducible rfl)
  try simp only [Act.put, List.getElem_toArray, List.getElem_cons_zero, List.getElem_cons_succ, List.setIfInBounds_toArray, List.set_cons_zero, List.set_cons_succ]
  refine wpAnyH_take (i := 6) (v := ?_) rfl (by kernel_rfl) (by kernel_rfl) (by kernel_rfl) (fun _ _ _ h => h) (Or.inl ⟨by rfl, ?_⟩) (by assumption) ?_
  rotate_left
  · (intro w' hSw; (try dsimp only at hSw); go_simp; try with_reducible rfl)
  try simp only [Act.put, List.getElem_toArray, List.getElem_cons_zero, List.getElem_cons_succ, List.setIfInBounds_toArray, List.set_cons_zero, List.set_cons_succ]
  refine wpAnyH_ready (rs := [3]) (by kernel_rfl) (by simp) ?_
  refine AllReadyH.cons rfl (fun K hK => ?_) AllReadyH.nil
  try simp only [Act.put, List.getElem_toArray, List.getElem_cons_zero, List.getElem_cons_succ, List.setIfInBounds_toArray, List.set_cons_zero, List.set_cons_succ]
  go_simp
  refine hK.out _ _ trivial (fun hHeld2 => ?_)
  clear hK K hHeld
  have hHeld := hHeld2
  clear hHeld2
  try simp only [Act.put, List.getElem_toArray, List.getElem_cons_zero, List.getElem_cons_succ, List.setIfInBounds_toArray, List.set_cons_zero, List.set_cons_succ]
  refine wpAnyH_ready (rs := [7]) (by kernel_rfl) (by simp) ?_
  refine AllReadyH.cons rfl (fun K hK => ?_) AllReadyH.nil
  try simp only [Act.put, List.getElem_toArray, List.getElem_cons_zero, List.getElem_cons_succ, List.setIfInBounds_toArray, List.set_cons_zero, List.set_cons_succ]
  go_simp
  refine hK.out _ _ trivial (fun hHeld2 => ?_)
  clear hK K hHeld
  have hHeld := hHeld2
  clear hHeld2
  try simp only [Act.put, List.getElem_toArray, List.getElem_cons_zero, List.getElem_cons_succ, List.setIfInBounds_toArray, List.set_cons_zero, List.set_cons_succ]
  have ba : Below w2.heap.size w2 (w2.alloc (.cells #[.int .i64 769] 3)) := (Below.refl _ w2).alloc (Nat.le_refl _) _
  obtain ⟨W, hW⟩ : ∃ W, W = (w2.alloc (.cells #[.int .i64 769] 3)).alloc (.cells #[.slice aa k ca, .slice (some ⟨w2.heap.size, 0, none⟩) 1 1, .slice AO (n - k) (ca - k)] 22) := ⟨_, rfl⟩
  have bb : Below (w2.alloc (.cells #[.int .i64 769] 3)).heap.size (w2.alloc (.cells #[.int .i64 769] 3)) W := by rw [hW]; exact (Below.refl _ _).alloc (Nat.le_refl _) _
  have bW : Below w2.heap.size w2 W := ba.trans (bb.mono ba.size)
  have HBW : Hid (Below w.heap.size w W) := HB2.out.trans (bW.mono HB2.out.size)
  have nb : W.heap[w2.heap.size + 1]? = some (.cells #[.slice aa k ca, .slice (some ⟨w2.heap.size, 0, none⟩) 1 1, .slice AO (n - k) (ca - k)] 22 (0, 0)) := by
    rw [hW]
    have := World.alloc_heap_new (w2.alloc (.cells #[.int .i64 769] 3)) (.cells #[.slice aa k ca, .slice (some ⟨w2.heap.size, 0, none⟩) 1 1, .slice AO (n - k) (ca - k)] 22)
    rwa [World.size_alloc] at this
  have HT : Hid (Tabs W t) := HT2.out.below bW
  have hdr : IV w (.slice AO (n - k) (ca - k)) (LA.drop k) := by rw [← hAO]; exact iv_drop HV.out hkn (by omega)
  have hnao : AO = none → n - k = 0 ∧ ca - k = 0 := fun e => by
    rw [← hAO] at e
    split at e
    · omega
    · cases aa with
      | none => have := HNA.out rfl; omega
      | some a => cases e
  have C := concat_any (w2.heap.size + 1) k ca 1 1 (n - k) (ca - k) aa (some ⟨w2.heap.size, 0, none⟩) AO (LA.take k) [769] (LA.drop k) W (cell_of_row W _ 0 _ _ _ nb) (cell_of_row W _ 1 _ _ _ nb) (cell_of_row W _ 2 _ _ _ nb) ((iv_take HV.out k hkn).below HBW.out) ((lit_iv w2 769).below bb) (hdr.below HBW.out) (by rw [List.length_take, HL.out]; omega) rfl (by rw [List.length_drop, HL.out]) (fun e => by have := HNA.out e; exact ⟨by omega, this⟩) (fun e => by cases e) hnao (by omega)
  rw [hW] at C
  clear ba bb bW nb hdr hnao hAO
  refine wpAnyH_ready (rs := [8]) (by kernel_rfl) (by simp) ?_
  refine AllReadyH.cons rfl (fun K hK => ?_) AllReadyH.nil
  try simp only [Act.put, List.getElem_toArray, List.getElem_cons_zero, List.getElem_cons_succ, List.setIfInBounds_toArray, List.set_cons_zero, List.set_cons_succ]
  go_simp
  refine C.mono ?_
  rintro e w3 ⟨lv, rfl, ho, b3⟩
  rw [← hW] at b3 ho
  clear C
  have hll : (LA.take k ++ [769] ++ LA.drop k).length = n + 1 := by rw [List.length_append, List.length_append, List.length_take, List.length_drop, HL.out]; simp; omega
  obtain ⟨xa, xc, rfl, htx⟩ := iown_txt ho hll (fun x hx => by
    rcases List.mem_append.1 hx with hx | hx
    · rcases List.mem_append.1 hx with hx | hx
      · exact HOK.out x (List.mem_of_mem_take hx)
      · rw [List.mem_singleton.1 hx]; exact okI_small (by decide) (by decide)
    · exact HOK.out x (List.mem_of_mem_drop hx)) (by omega)
  have HTX : Hid (Txt w3 xa (n + 1) xc (LA.take k ++ [769] ++ LA.drop k)) := htx
  have HB3 : Hid (Below w.heap.size w w3) := HBW.out.trans (b3.mono HBW.out.size)
  have HT3 : Hid (Tabs w3 t) := HT.out.below b3
  have HEI : Hid (∀ (V : World) (i : Int), Below w3.heap.size w3 V → Calls Tryz.prog 12 #[.pointer (some ⟨t, 0, none⟩), .slice xa (n + 1) xc, .int .i64 i] V fun e w' => e = .returned (.bool (edgeP (LA.take k ++ [769] ++ LA.drop k) i)) ∧ Below V.heap.size V w') := fun V i hb => edge_t t xa _ xc _ i V (HT3.out.below hb) (HE.out.below (HB3.out.trans (hb.mono HB3.out.size))).syl (HTX.out.below hb)
  have HAW : Hid (∀ V, Below w3.heap.size w3 V → Calls Tryz.prog 15 #[] V fun e w' => e = .returned (.bool true) ∧ Below V.heap.size V w') := fun V hb => awake_any V (HE.out.below (HB3.out.trans (hb.mono HB3.out.size)))
  refine hK.out _ _ trivial (fun hHeld2 => ?_)
  clear hK K hHeld hW b3 ho htx hll HBW HT HB2 HT2
  have hHeld := hHeld2
  clear hHeld2
  try simp only [Act.put, List.getElem_toArray, List.getElem_cons_zero, List.getElem_cons_succ, List.setIfInBounds_toArray, List.set_cons_zero, List.set_cons_succ]
  refine wpAnyH_take (i := 9) (v := ?_) rfl (by kernel_rfl) (by kernel_rfl) (by kernel_rfl) (fun _ _ _ h => h) (Or.inl ⟨by rfl, ?_⟩) (by assumption) ?_
  rotate_left
  · (intro w' hSw; (try dsimp only at hSw); go_simp; try with_reducible rfl)
  try simp only [Act.put, List.getElem_toArray, List.getElem_cons_zero, List.getElem_cons_succ, List.setIfInBounds_toArray, List.set_cons_zero, List.set_cons_succ]
  refine wpAnyH_done (by kernel_rfl) ?_ _
  refine NoPanic.normal ?_
  clear hHeld u1 u2 u3 u3' u4 u5 hmod k2 hncap
  rcases Nat.eq_zero_or_pos k with h0 | h0
  · have HF : Hid (edgeP (LA.take k ++ [769] ++ LA.drop k) (k : Int) = true) := by
      unfold Hid
      rw [h0]
      exact marks_first _
    have hgt : ¬ (0 : Int) < (k : Int) := by omega
    have hk0 : ((k : Int) == 0) = true := by rw [beq_iff_eq]; omega
    have HB4 : Hid (Below w3.heap.size w3 w3) := Below.refl _ _
    have C := HEI.out w3 (k : Int) (Below.refl _ _)
    rw [HF.out] at C
    clear HF h0
    go_wp2_with fail
    refine C.mono ?_
    rintro e w5 ⟨rfl, b5⟩
    clear C
    have HB5 : Hid (Below w3.heap.size w3 w5) := HB4.out.trans (b5.mono HB4.out.size)
    have C := HAW.out w5 HB5.out
    clear b5 HB4
    go_wp2_with fail
    refine C.mono ?_
    rintro e w6 ⟨rfl, b6⟩
    clear C
    have HB6 : Hid (Below w3.heap.size w3 w6) := HB5.out.trans (b6.mono HB5.out.size)
    clear b6 HB5
    go_wp2
    go_ret
    exact ⟨rfl, HB3.out.trans (HB6.out.mono HB3.out.size)⟩
  · obtain ⟨j, hj⟩ : ∃ j, k = j + 1 := ⟨k - 1, by omega⟩
    obtain ⟨hla, hat⟩ := iv_cells HTX.out.iv
    obtain ⟨x, b, o, rfl, cx, hx⟩ := hat j (by omega)
    have hxl : LA[j]? = some x := by
      rw [List.append_assoc, List.getElem?_append_left (by rw [List.length_take, HL.out]; omega), List.getElem?_take_of_lt (by omega)] at hx
      exact hx
    have HF : Hid (edgeP (LA.take k ++ [769] ++ LA.drop k) (k : Int) = alone (kd x)) := by
      have e : LA.take k = LA.take j ++ [x] := by rw [hj, List.take_add_one, hxl]; rfl
      have q := marks_mid (LA.take j) (LA.drop k) x
      rw [← e, List.length_take, HL.out, Nat.min_eq_left (by omega), ← hj] at q
      exact q
    have hgt : (0 : Int) < (k : Int) := by omega
    have hk0 : ((k : Int) == 0) = false := by rw [beq_eq_false_iff_ne]; omega
    have wk : IntKind.i64.wrap ((k : Int) - 1) = (j : Int) := by rw [IntKind.wrap_i64]; omega
    have j1 : (0 : Int) ≤ (j : Int) := by omega
    have j2 : (j : Int) < ((n + 1 : Nat) : Int) := by omega
    have j3 : (j : Int) < (n : Int) + 1 := by omega
    have C := (cluster_t t x w3 HT3.out).mono (fun e w' hh => (⟨⟨_, hh.1, isK_cl x⟩, hh.2⟩ : (∃ A, e = .returned (.string A) ∧ IsK A (kd x)) ∧ Below w3.heap.size w3 w'))
    have HF2 : Hid (∀ V, Below w3.heap.size w3 V → Calls Tryz.prog 12 #[.pointer (some ⟨t, 0, none⟩), .slice (some ⟨b, o, none⟩) (n + 1) xc, .int .i64 (k : Int)] V fun e w' => e = .returned (.bool (alone (kd x))) ∧ Below V.heap.size V w') := fun V hb => by
      have q := HEI.out V (k : Int) hb
      rw [HF.out] at q
      exact q
    clear HF hat hla hx hxl hj h0 HEI
    generalize kd x = a at *
    go_wp2_with fail
    refine C.mono ?_
    rintro e w4 ⟨⟨A, rfl, hA⟩, b4⟩
    clear C
    have HB4 : Hid (Below w3.heap.size w3 w4) := b4
    have q1 := hA.eq 1 (by decide) (by decide) [67, 82] rfl
    have q2 := hA.eq 2 (by decide) (by decide) [76, 70] rfl
    have q3 := hA.eq 3 (by decide) (by decide) [67, 111, 110, 116, 114, 111, 108] rfl
    rw [show ((1 : Nat) : Int) = 1 from rfl] at q1
    rw [show ((2 : Nat) : Int) = 2 from rfl] at q2
    rw [show ((3 : Nat) : Int) = 3 from rfl] at q3
    have C := HF2.out w4 b4
    rw [show alone a = (a == 1 || a == 2 || a == 3) from rfl] at C
    clear b4 hA cx HF2
    cases e1 : (a == 1) with
    | true =>
      rw [e1] at q1 C
      clear e1 q2 q3
      rw [Bool.true_or, Bool.true_or] at C
      go_wp2_with fail
      refine C.mono ?_
      rintro e w5 ⟨rfl, b5⟩
      clear C
      have HB5 : Hid (Below w3.heap.size w3 w5) := HB4.out.trans (b5.mono HB4.out.size)
      have C := HAW.out w5 HB5.out
      clear b5 HB4
      go_wp2_with fail
      refine C.mono ?_
      rintro e w6 ⟨rfl, b6⟩
      clear C
      have HB6 : Hid (Below w3.heap.size w3 w6) := HB5.out.trans (b6.mono HB5.out.size)
      clear b6 HB5
      go_wp2
      go_ret
      exact ⟨rfl, HB3.out.trans (HB6.out.mono HB3.out.size)⟩
    | false =>
      rw [e1] at q1 C
      cases e2 : (a == 2) with
      | true =>
        rw [e2] at q2 C
        clear e1 e2 q3
        rw [Bool.or_true, Bool.true_or] at C
        go_wp2_with fail
        refine C.mono ?_
        rintro e w5 ⟨rfl, b5⟩
        clear C
        have HB5 : Hid (Below w3.heap.size w3 w5) := HB4.out.trans (b5.mono HB4.out.size)
        have C := HAW.out w5 HB5.out
        clear b5 HB4
        go_wp2_with fail
        refine C.mono ?_
        rintro e w6 ⟨rfl, b6⟩
        clear C
        have HB6 : Hid (Below w3.heap.size w3 w6) := HB5.out.trans (b6.mono HB5.out.size)
        clear b6 HB5
        go_wp2
        go_ret
        exact ⟨rfl, HB3.out.trans (HB6.out.mono HB3.out.size)⟩
      | false =>
        rw [e2] at q2 C
        cases e3 : (a == 3) with
        | true =>
          rw [e3] at q3 C
          clear e1 e2 e3
          rw [Bool.or_true] at C
          go_wp2_with fail
          refine C.mono ?_
          rintro e w5 ⟨rfl, b5⟩
          clear C
          have HB5 : Hid (Below w3.heap.size w3 w5) := HB4.out.trans (b5.mono HB4.out.size)
          have C := HAW.out w5 HB5.out
          clear b5 HB4
          go_wp2_with fail
          refine C.mono ?_
          rintro e w6 ⟨rfl, b6⟩
          clear C
          have HB6 : Hid (Below w3.heap.size w3 w6) := HB5.out.trans (b6.mono HB5.out.size)
          clear b6 HB5
          go_wp2
          go_ret
          exact ⟨rfl, HB3.out.trans (HB6.out.mono HB3.out.size)⟩
        | false =>
          rw [e3] at q3 C
          clear e1 e2 e3
          rw [Bool.or_false, Bool.or_false] at C
          go_wp2_with fail
          refine C.mono ?_
          rintro e w5 ⟨rfl, b5⟩
          clear C
          have HB5 : Hid (Below w3.heap.size w3 w5) := HB4.out.trans (b5.mono HB4.out.size)
          have C := HAW.out w5 HB5.out
          clear b5 HB4
          go_wp2_with fail
          refine C.mono ?_
          rintro e w6 ⟨rfl, b6⟩
          clear C
          have HB6 : Hid (Below w3.heap.size w3 w6) := HB5.out.trans (b6.mono HB5.out.size)
          clear b6 HB5
          go_wp2
          go_ret
          exact ⟨rfl, HB3.out.trans (HB6.out.mono HB3.out.size)⟩
end Go.Proofs.YtbdojobplhpnbaaGreatDoor.clu
end
