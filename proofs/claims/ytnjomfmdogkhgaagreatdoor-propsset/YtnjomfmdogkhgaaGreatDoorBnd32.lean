/- Texts that the proof leans on, one behind the other. -/
import Derived.Test.YtnjomfmdogkhgaaGreatDoorBnd13
import Derived.Test.YtnjomfmdogkhgaaGreatDoorBnd28
import Derived.Recover

section
/- What trie.same answers of two values of type string: whether they are one; what Ranges of a trie answers: the set of the code points of a value. -/
set_option linter.unusedVariables false
set_option linter.unusedSimpArgs false
namespace Go.Proofs.YtnjomfmdogkhgaaGreatDoor.tri.str
open Go.RowKit Go.Proofs.YtnjomfmdogkhgaaGreatDoor.tri
open Go.Proofs.YtnjomfmdogkhgaaGreatDoor.rng (ret_int ret_bool below_drewN info_parts own_below' R code has IsSet infoRange)

theorem idle (p : Addr) (w : World) :
    CallsD Tryz.prog 116 #[.pointer (some p)] .returning w fun e u' w' => e = .returned (.tuple #[]) ∧ u' = .returning ∧ w' = w := by
  refine callsD_of_wpS Tryz.func116 rfl fun c₀ cs hu => ?_
  apply wpS_seq
  apply wpS_region
  simp [wpOpsS, go_sem, recoverD, hu, Tryz.ntmps116, Exit.thenS]
  refine wpS_cond (t := false) (by simp [Act.eval, Array.replicate]) ?_
  simp only [Bool.false_eq_true, if_false]
  refine wpS_of_wp (wp_skip ?_)
  cases c₀
  simp_all [bodyPostS, results, Tryz.results116]
set_option maxHeartbeats 1000000 in
theorem same_any (a b : ByteArray) (w : World) :
    Calls Tryz.prog 80 #[.string a, .string b] w fun e w' => e = .returned (.bool (a == b)) ∧ Below w.heap.size w w' := by
  have hmf : ∀ (fn : Fn) (first cap : Array Value) (w : World), (Instr.makeFunc fn first cap).run Tryz.prog w = .ok (.func fn first cap) w := fun _ _ _ _ => rfl
  have hb := (Below.refl w.heap.size w).alloc (Nat.le_refl _) (.cells #[.bool (a == b)] 4)
  go_enter_defers Tryz.func80, Tryz.ntmps80
  go_wp2
  refine leaves_cons (f := 116) (args := #[.pointer (some ⟨w.heap.size, 0, none⟩)]) (by simp) (by simp [go_sem]) ?_
  refine (idle ⟨w.heap.size, 0, none⟩ _).mono ?_
  rintro e u' w'' ⟨rfl, rfl, rfl⟩
  simp [Leaves, settle, results, Tryz.results80, go_sem]
  first | exact hb | exact ⟨rfl, hb⟩ | (refine ⟨(beq_toListBytes _ _).symm, ?_⟩; rw [← beq_toListBytes]; exact hb)

set_option maxRecDepth 100000 in
set_option maxHeartbeats 4000000 in
theorem ranges_any (nv : Int) (V : Int → ByteArray) (tb : Nat) (s : List E) (v : ByteArray) (w : World) (ht : TrieIs w V tb s) (hr : Ris nv 0 s) :
    Calls Tryz.prog 54 #[.pointer (some ⟨tb, 0, none⟩), .string v] w fun e w' => ∃ v' r, e = .returned v' ∧ rng.Own w' w.heap.size v' r ∧ IsSet r (fun x => match at_ s x with | some i => V i == v | none => false) ∧ Below w.heap.size w w' := by
  obtain ⟨i0, hi, hz0, hz1, hz2⟩ := info_parts infoRange
  obtain ⟨⟨ra, rc, t0, hv⟩, h3⟩ := ht
  clear h3
  have HV : Hid (RV w V ra s) := hv
  have HR : Hid (Ris nv 0 s) := hr
  have hlen := ris_len hr
  obtain ⟨n, hl⟩ : ∃ n, s.length = n := ⟨_, rfl⟩
  rw [hl] at hlen t0
  have HL : Hid (s.length = n) := hl
  clear hv hr hl
  go_enter Tryz.func54, Tryz.ntmps54
  go_wp2
  go_loopw [5, 15] (fun o i wr => ∃ (k : Nat) (out : List R), k ≤ n ∧ i = .int .i64 k ∧ out.length ≤ k ∧ Hid (out = rngOf (fun i => V i == v) (s.take k)) ∧ wr.ownsRow w.heap.size 40 2 o out.length (rng.flat out) ∧ Below w.heap.size w wr) (fun _ i _ => n - (intOf i).toNat)
  case atStart => exact ⟨0, [], Nat.zero_le _, rfl, Nat.le_refl _, rfl, World.ownsRow_nil _ _ _ _, Below.refl _ _⟩
  case round =>
    obtain ⟨k, out, hk, rfl, hok, HO, hown, hbel⟩ := hrel
    have hs1 := hbel.size
    by_cases hlt : k < n
    · obtain ⟨x, y, z, hp⟩ := get3 HL.out hlt
      obtain ⟨b, rfl, hc⟩ := (HV.out.below hbel).some (by have := HL.out; omega)
      obtain ⟨c1, c2, c3⟩ := hc k (x, y, z) hp
      simp only at c1 c2 c3
      have HN : Hid (rngOf (fun i => V i == v) (s.take (k + 1)) = rngOf (fun i => V i == v) (s.take k) ++ (if (V z == v) = true then [(x, y)] else [])) := by
        unfold Hid; rw [takeX hp, rngOf_snoc]
      clear hc hp
      have O1 := hown.alloc (.cells #[.int .i64 x, .int .i64 y, .string (V (z))] 120)
      have B1 := hbel.alloc hs1 (.cells #[.int .i64 x, .int .i64 y, .string (V (z))] 120)
      have f0 : (wr.alloc (.cells #[.int .i64 x, .int .i64 y, .string (V (z))] 120)).cell? ⟨wr.heap.size, 0, none⟩ = some (.int .i64 x) := by simp
      have f1 : (wr.alloc (.cells #[.int .i64 x, .int .i64 y, .string (V (z))] 120)).cell? ⟨wr.heap.size, 1, none⟩ = some (.int .i64 y) := by simp
      have bl : wr.heap.size < (wr.alloc (.cells #[.int .i64 x, .int .i64 y, .string (V (z))] 120)).heap.size := by simp
      have C := same_any (V z) v (wr.alloc (.cells #[.int .i64 x, .int .i64 y, .string (V (z))] 120))
      have HW : Hid (∀ j, u5.ownBlock = some j → w.heap.size ≤ j) := fun j e => (hown.lt _ e).1
      obtain ⟨t, hVz⟩ : ∃ t, (V z == v) = t := ⟨_, rfl⟩
      rw [hVz] at C
      have HN' : Hid (rngOf (fun i => V i == v) (s.take (k + 1)) = out ++ (if t = true then [(x, y)] else [])) := by
        unfold Hid; rw [HN.out, hVz, ← HO.out]
      clear hVz HN HO hown hbel
      go_wp2_with fail
      refine C.mono ?_
      rintro e w2 ⟨rfl, hb2⟩
      have O2 := own_below' O1 hb2
      have B2 := B1.trans (hb2.mono B1.size)
      have g0 := (hb2.cell (p := ⟨wr.heap.size, 0, none⟩) bl).trans f0
      have g1 := (hb2.cell (p := ⟨wr.heap.size, 1, none⟩) bl).trans f1
      have hs2 := B2.size
      clear C hb2 O1 B1 f0 f1 c1 c2 c3
      cases t with
      | false =>
        have HE : Hid (out = rngOf (fun i => V i == v) (s.take (k + 1))) := by unfold Hid; rw [HN'.out]; simp
        clear HN'
        go_wp2
        go_roundw
        case rel => exact ⟨k + 1, out, by omega, by go_num, by omega, HE, O2, B2⟩
        case measure => simp [intOf]; omega
      | true =>
        have HE : Hid (out ++ [(x, y)] = rngOf (fun i => V i == v) (s.take (k + 1))) := by unfold Hid; rw [HN'.out]; simp
        clear HN'
        go_wp2_with (at_builtin; refine wpList_append_own _ rfl _ _ 34 rfl w.heap.size 40 i0 (.agg #[.int .i64 0, .int .i64 0]) 2 16 Tryz.underlying34 hi hz0 hz1 hz2 rfl (by decide) _ _ _ rfl (O2.alloc _) ⟨w2.heap.size, 0, none⟩ 1 1 [.int .i64 x, .int .i64 y] rfl rfl ?c1 ?c2 ?c3 ?c4 ?c5 ?_)
        try (case c1 => exact rng.one_new w2 _ _ _)
        case c2 => first | (intro u hu; simp at hu; rcases hu with rfl | rfl <;> rfl) | (refine ⟨?_, ?_⟩ <;> rfl)
        case c3 => unfold maxLen; omega
        case c4 => omega
        case c5 => first | omega | (simp; omega)
        · intro v' w4 hown4 hgrow _
          have R2 := Below.grown (B2.alloc hs2 (.cells #[.int .i64 x, .int .i64 y] 40)) hgrow (by simp; omega) HW.out
          have R1 : w4.ownsRow w.heap.size 40 2 v' (out ++ [(x, y)]).length (rng.flat (out ++ [(x, y)])) := by
            rw [rng.flat_append, rng.flat_two, List.length_append]; exact hown4
          have R3 : (out ++ [(x, y)]).length ≤ k + 1 := by rw [List.length_append]; simp; omega
          clear hown4 hgrow
          go_wp2
          go_roundw
          case rel => exact ⟨k + 1, out ++ [(x, y)], by omega, by go_num, R3, HE, R1, R2⟩
          case measure => simp [intOf]; omega
    · have HD : Hid (out = rngOf (fun i => V i == v) s) := by
        have := HO.out; rw [List.take_of_length_le (by have := HL.out; omega)] at this; exact this
      have hown' : rng.Own wr w.heap.size u5 out := hown
      obtain ⟨ao, cap, rfl, hv, _, _⟩ := rng.Own.view hown'
      have C := rng.make_any ao cap out wr (by omega) hv
      have HBE : Hid (Below w.heap.size w wr) := hbel
      clear HO hown hown' hv hbel
      generalize out.length = ol at *
      go_wp2_with fail
      refine C.mono ?_
      rintro e w2 ⟨v2, r2, rfl, o2, i2, b2⟩
      have I2 : Hid (IsSet r2 (has out)) := i2
      have O2 : Hid (rng.Own w2 wr.heap.size v2 r2) := o2
      clear i2 o2 C
      go_wp2
      go_ret
      refine ⟨_, r2, rfl, rng.own_mono O2.out hs1, I2.out.congr (fun x _ => ?_), HBE.out.trans (b2.mono hs1)⟩
      rw [HD.out, has_rngOf _ x (Int.le_refl 0) HR.out]
      cases at_ s x <;> rfl
set_option maxHeartbeats 400000 in
theorem ranges_nil (v : ByteArray) (w : World) :
    Calls Tryz.prog 54 #[.pointer none, .string v] w fun e w' => e = .returned (.slice none 0 0) ∧ w' = w := by
  go_enter Tryz.func54, Tryz.ntmps54
  go_wp2
  go_ret
  exact ⟨rfl, rfl⟩
end Go.Proofs.YtnjomfmdogkhgaaGreatDoor.tri.str
end
