/- What the document's Ranges answers: the set of the code points whose value stands at one of some places. -/
import Derived.Test.YtmglljceklmngaaTriParts
set_option linter.unusedVariables false
set_option linter.unusedSimpArgs false
namespace Go.Proofs.Ytmglljceklmngaa.tri
open Go.RowKit
open Go.Proofs.Ytmglljceklmngaa.rng (ret_int ret_bool below_drewN info_parts own_below' IsSet code has)

/-- Is i one of the places. -/
def among (P : List Int) (i : Int) : Bool := P.any fun p => p == i
theorem among_snoc (P : List Int) (p i : Int) : among (P ++ [p]) i = (among P i || p == i) := by simp [among]
theorem has_single (x y x' : Int) (hc : code x' = true) : has [(x, y)] x' = decide (x ≤ x' ∧ x' ≤ y) := by
  rw [rng.has_cons, rng.has_nil, hc, Bool.or_false, Bool.true_and]
  rw [Bool.eq_iff_iff, rng.inP_iff, decide_eq_true_eq]
theorem step_hit {l : List E} {k : Nat} {x y z : Int} {g : Int → Bool} {r r' : List rng.R} (hp : l[k]? = some (x, y, z)) (hg : g z = true) (h : IsSet r (fun x' => tell g (last (l.take k) x'))) (h' : IsSet r' (fun x' => has r x' || has [(x, y)] x')) :
    IsSet r' (fun x' => tell g (last (l.take (k + 1)) x')) := by
  refine h'.congr (fun x' hc => ?_)
  rw [h.2 x' hc, has_single x y x' hc, last_take hp]
  simp only
  by_cases c : x ≤ x' ∧ x' ≤ y
  · rw [decide_eq_true c, if_pos c, Bool.or_true]; exact hg.symm
  · rw [decide_eq_false c, if_neg c, Bool.or_false]
theorem step_miss {l : List E} {k : Nat} {x y z : Int} {g : Int → Bool} {r r' : List rng.R} (hp : l[k]? = some (x, y, z)) (hg : g z = false) (h : IsSet r (fun x' => tell g (last (l.take k) x'))) (h' : IsSet r' (fun x' => has r x' && !has [(x, y)] x')) :
    IsSet r' (fun x' => tell g (last (l.take (k + 1)) x')) := by
  refine h'.congr (fun x' hc => ?_)
  rw [h.2 x' hc, has_single x y x' hc, last_take hp]
  simp only
  by_cases c : x ≤ x' ∧ x' ≤ y
  · rw [decide_eq_true c, if_pos c, Bool.not_true, Bool.and_false]; exact hg.symm
  · rw [decide_eq_false c, if_neg c, Bool.not_false, Bool.and_true]

set_option maxRecDepth 10000 in
set_option maxHeartbeats 8000000 in
theorem rranges_any (ao pa : Option Addr) (cap pcap : Nat) (l : List E) (P : List Int) (w : World) (hn : l.length ≤ 1000000) (hm : P.length ≤ 1000000) (hv : EV w ao l) (hp : rng.IV w pa P) :
    Calls Try.prog 20 #[.slice ao l.length cap, .slice pa P.length pcap] w fun e w' => ∃ v' r, e = .returned v' ∧ rng.Sl w' v' r ∧ IsSet r (fun x => tell (among P) (last l x)) ∧ Below w.heap.size w w' := by
  have HV : Hid (EV w ao l) := hv
  have HP : Hid (rng.IV w pa P) := hp
  obtain ⟨n, hl⟩ : ∃ n, l.length = n := ⟨_, rfl⟩
  obtain ⟨m, hml⟩ : ∃ m, P.length = m := ⟨_, rfl⟩
  rw [hl] at hn ⊢
  rw [hml] at hm ⊢
  have HL : Hid (l.length = n) := hl
  have HM : Hid (P.length = m) := hml
  clear hv hp hl hml
  have HS0 : Hid (rng.Sl w (.slice none 0 0) []) := ⟨none, 0, rfl, .inl rfl, fun _ => rfl⟩
  have HI0 : Hid (IsSet [] (fun x => tell (among P) (last (l.take 0) x))) := ⟨trivial, fun x _ => by rw [rng.has_nil]; rfl⟩
  go_enter Try.func20, Try.ntmps20
  go_wp2
  go_loopw [5, 14] (fun o i wr => ∃ (k : Nat) (r : List rng.R), k ≤ n ∧ i = .int .i64 k ∧ Hid (rng.Sl wr o r) ∧ Hid (IsSet r (fun x => tell (among P) (last (l.take k) x))) ∧ Below w.heap.size w wr) (fun _ i _ => n - (intOf i).toNat)
  case atStart => exact ⟨0, [], Nat.zero_le _, rfl, HS0, HI0, Below.refl _ _⟩
  case round =>
    obtain ⟨k, r, hk, rfl, HS, HI, hbel⟩ := hrel
    clear HS0 HI0
    have hs1 := hbel.size
    by_cases hlt : k < n
    · obtain ⟨x, y, z, hp⟩ := get3 HL.out hlt
      obtain ⟨b, off, rfl, hc⟩ := (HV.out.below hbel).some (by have := HL.out; omega)
      obtain ⟨c1, c2, c3⟩ := hc k (x, y, z) hp
      simp only at c1 c2 c3
      have HPK : Hid (l[k]? = some (x, y, z)) := hp
      have B1 := hbel.alloc hs1 (.cells #[.int .i64 x, .int .i64 y, .int .i64 z] 27)
      have S1 : Hid (rng.Sl (wr.alloc (.cells #[.int .i64 x, .int .i64 y, .int .i64 z] 27)) u5 r) := HS.out.below ((Below.refl _ _).alloc (Nat.le_refl _) _)
      have f0 : (wr.alloc (.cells #[.int .i64 x, .int .i64 y, .int .i64 z] 27)).cell? ⟨wr.heap.size, 0, none⟩ = some (.int .i64 x) := by simp
      have f1 : (wr.alloc (.cells #[.int .i64 x, .int .i64 y, .int .i64 z] 27)).cell? ⟨wr.heap.size, 1, none⟩ = some (.int .i64 y) := by simp
      have f2 : (wr.alloc (.cells #[.int .i64 x, .int .i64 y, .int .i64 z] 27)).cell? ⟨wr.heap.size, 2, none⟩ = some (.int .i64 z) := by simp
      clear hc hp HS
      go_wp2
      generalize hw3 : wr.alloc (.cells #[.int .i64 x, .int .i64 y, .int .i64 z] 27) = w3 at *
      clear hw3 c1 c2 c3 hbel hs1
      generalize wr.heap.size = bx at *
      have HL3 : Hid (r.length ≤ 1000000) := by have := rng.can_len HI.out.1; unfold Hid; omega
      go_loopw [8, 20] (fun h i wr => ∃ (j : Nat), j ≤ m ∧ i = .int .i64 j ∧ h = .bool (among (P.take j) z) ∧ wr = w3) (fun _ i _ => m - (intOf i).toNat)
      case atStart => exact ⟨0, Nat.zero_le _, rfl, rfl, rfl⟩
      case round =>
        obtain ⟨j, hj, rfl, rfl, rfl⟩ := hrel
        by_cases hjm : j < m
        · obtain ⟨p, hpj⟩ := getX HM.out hjm
          obtain ⟨pb, po, rfl, hpc⟩ := (HP.out.below B1).some (by have := HM.out; omega)
          have cp := hpc j p hpj
          have HN : Hid (among (P.take (j + 1)) z = (among (P.take j) z || p == z)) := by unfold Hid; rw [takeX hpj, among_snoc]
          clear hpc hpj
          obtain ⟨t, ht⟩ : ∃ t, among (P.take j) z = t := ⟨_, rfl⟩
          rw [ht] at HN ⊢
          clear ht
          cases t with
          | true =>
            have HE : Hid (among (P.take (j + 1)) z = true) := by unfold Hid; rw [HN.out]; rfl
            clear HN
            go_wp2
            go_roundw
            case rel => exact ⟨j + 1, by omega, by go_num, by rw [HE.out], by first | trivial | rfl⟩
            case measure => simp [intOf]; omega
          | false =>
            obtain ⟨d, hd⟩ : ∃ d, (p == z) = d := ⟨_, rfl⟩
            have HE : Hid (among (P.take (j + 1)) z = d) := by unfold Hid; rw [HN.out, hd]; rfl
            clear HN
            go_wp2
            go_roundw
            case rel => exact ⟨j + 1, by omega, by go_num, by rw [HE.out], by first | trivial | rfl⟩
            case measure => simp [intOf]; omega
        · have HT : Hid (P.take j = P) := List.take_of_length_le (by have := HM.out; omega)
          rw [HT.out]
          obtain ⟨t, ht⟩ : ∃ t, among P z = t := ⟨_, rfl⟩
          have HZ : Hid (among P z = t) := ht
          rw [ht]
          clear ht
          have S2 : Hid (rng.Sl (wr.alloc (.cells #[.int .i64 x, .int .i64 y] 43)) u5 r) := S1.out.below ((Below.refl _ _).alloc (Nat.le_refl _) _)
          have S3 : Hid (rng.Sl (wr.alloc (.cells #[.int .i64 x, .int .i64 y] 43)) (.slice (some ⟨wr.heap.size, 0, none⟩) 1 1) [(x, y)]) := ⟨_, 1, rfl, rng.rv_one wr x y, fun e => by cases e⟩
          have B2 := B1.alloc B1.size (.cells #[.int .i64 x, .int .i64 y] 43)
          cases t with
          | true =>
            go_wp2_with fail
            refine (rng.runion_s _ _ r [(x, y)] _ S2.out S3.out HL3.out (by simp)).mono ?_
            rintro e w4 ⟨v4, r4, rfl, s4, i4, b4⟩
            have B4 := B2.trans (b4.mono B2.size)
            have I4 : Hid (IsSet r4 (fun x' => tell (among P) (last (l.take (k + 1)) x'))) := step_hit HPK.out HZ.out HI.out i4
            have S4 : Hid (rng.Sl w4 v4 r4) := s4
            clear i4 s4 b4 B2 B1 S1 S2 S3
            go_wp2
            go_roundw
            case rel => exact ⟨k + 1, r4, by omega, by go_num, S4, I4, B4⟩
            case measure => simp [intOf]; omega
          | false =>
            go_wp2_with fail
            refine (rng.rminus_s _ _ r [(x, y)] _ S2.out S3.out HL3.out (by simp)).mono ?_
            rintro e w4 ⟨v4, r4, rfl, s4, i4, b4⟩
            have B4 := B2.trans (b4.mono B2.size)
            have I4 : Hid (IsSet r4 (fun x' => tell (among P) (last (l.take (k + 1)) x'))) := step_miss HPK.out HZ.out HI.out i4
            have S4 : Hid (rng.Sl w4 v4 r4) := s4
            clear i4 s4 b4 B2 B1 S1 S2 S3
            go_wp2
            go_roundw
            case rel => exact ⟨k + 1, r4, by omega, by go_num, S4, I4, B4⟩
            case measure => simp [intOf]; omega
    · have HT : Hid (l.take k = l) := List.take_of_length_le (by have := HL.out; omega)
      rw [HT.out] at HI
      go_wp2
      go_ret
      exact ⟨_, r, rfl, HS.out, HI.out, hbel⟩
end Go.Proofs.Ytmglljceklmngaa.tri
