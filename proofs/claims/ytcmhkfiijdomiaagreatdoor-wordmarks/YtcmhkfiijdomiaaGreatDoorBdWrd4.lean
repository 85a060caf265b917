/- Texts that the proof leans on, one behind the other. -/
import Derived.Test.YtcmhkfiijdomiaaGreatDoorBdWrd3
import Derived.Laws.EntriesVeiled

section
/- subject.far. -/
set_option linter.unusedVariables false
set_option linter.unusedSimpArgs false
namespace Go.Proofs.YtcmhkfiijdomiaaGreatDoor.wrd
open Go.RowKit Go.Maps
open Go.Proofs.YtcmhkfiijdomiaaGreatDoor.lin Go.Proofs.YtcmhkfiijdomiaaGreatDoor.prp

theorem join_prog (a2 a b b2 : Int) : joinB a2 a b b2 = ((letB a && letB b) || ((letB a && (b == 13 || quoB b) && letB b2) || (letB a2 && ((a == 13 || quoB a) && letB b))) || (a == 10 && b == 11) || ((a == 10 && b == 12 && b2 == 10) || (a2 == 10 && (a == 12 && b == 10))) ||
  (a == 16 && b == 16) || (letB a && b == 16) || (a == 16 && letB b) || ((a == 16 && (b == 14 || quoB b) && b2 == 16) || (a2 == 16 && ((a == 14 || quoB a) && b == 16))) || (a == 17 && b == 17) || ((letB a || (a == 16 || a == 17 || a == 18)) && b == 18) || (a == 18 && (letB b || (b == 16 || b == 17)))) := by
  unfold joinB
  generalize letB a = la; generalize letB b = lb; generalize letB a2 = la2; generalize letB b2 = lb2; generalize quoB a = qa; generalize quoB b = qb
  rw [Bool.and_or_distrib_right (a == 16) la (b == 16)]
  ac_rfl
theorem in_1536 (k : Int) (h : -1 ≤ k ∧ k ≤ 19) : inB (bt k) 1536 = letB k := of_fin (P := fun k => inB (bt k) 1536 = letB k) (by decide +kernel) k h.1 h.2
theorem in_43008 (k : Int) (h : -1 ≤ k ∧ k ≤ 19) : inB (bt k) 43008 = (k == 13 || quoB k) := of_fin (P := fun k => inB (bt k) 43008 = (k == 13 || quoB k)) (by decide +kernel) k h.1 h.2
theorem in_1024 (k : Int) (h : -1 ≤ k ∧ k ≤ 19) : inB (bt k) 1024 = (k == 10) := of_fin (P := fun k => inB (bt k) 1024 = (k == 10)) (by decide +kernel) k h.1 h.2
theorem in_2048 (k : Int) (h : -1 ≤ k ∧ k ≤ 19) : inB (bt k) 2048 = (k == 11) := of_fin (P := fun k => inB (bt k) 2048 = (k == 11)) (by decide +kernel) k h.1 h.2
theorem in_4096 (k : Int) (h : -1 ≤ k ∧ k ≤ 19) : inB (bt k) 4096 = (k == 12) := of_fin (P := fun k => inB (bt k) 4096 = (k == 12)) (by decide +kernel) k h.1 h.2
theorem in_65536 (k : Int) (h : -1 ≤ k ∧ k ≤ 19) : inB (bt k) 65536 = (k == 16) := of_fin (P := fun k => inB (bt k) 65536 = (k == 16)) (by decide +kernel) k h.1 h.2
theorem in_51200 (k : Int) (h : -1 ≤ k ∧ k ≤ 19) : inB (bt k) 51200 = (k == 14 || quoB k) := of_fin (P := fun k => inB (bt k) 51200 = (k == 14 || quoB k)) (by decide +kernel) k h.1 h.2
theorem in_131072 (k : Int) (h : -1 ≤ k ∧ k ≤ 19) : inB (bt k) 131072 = (k == 17) := of_fin (P := fun k => inB (bt k) 131072 = (k == 17)) (by decide +kernel) k h.1 h.2
theorem in_460288 (k : Int) (h : -1 ≤ k ∧ k ≤ 19) : inB (bt k) 460288 = (letB k || (k == 16 || k == 17 || k == 18)) := of_fin (P := fun k => inB (bt k) 460288 = (letB k || (k == 16 || k == 17 || k == 18))) (by decide +kernel) k h.1 h.2
theorem in_262144 (k : Int) (h : -1 ≤ k ∧ k ≤ 19) : inB (bt k) 262144 = (k == 18) := of_fin (P := fun k => inB (bt k) 262144 = (k == 18)) (by decide +kernel) k h.1 h.2
theorem in_198144 (k : Int) (h : -1 ≤ k ∧ k ≤ 19) : inB (bt k) 198144 = (letB k || (k == 16 || k == 17)) := of_fin (P := fun k => inB (bt k) 198144 = (letB k || (k == 16 || k == 17))) (by decide +kernel) k h.1 h.2
theorem far_bits (a2 a b b2 : Int) (h2 : -1 ≤ a2 ∧ a2 ≤ 19) (ha : -1 ≤ a ∧ a ≤ 19) (hb : -1 ≤ b ∧ b ≤ 19) (hb2 : -1 ≤ b2 ∧ b2 ≤ 19) : joinB a2 a b b2 = ((inB (bt a) 1536 && inB (bt b) 1536) || ((inB (bt a) 1536 && inB (bt b) 43008 && inB (bt b2) 1536) || (inB (bt a2) 1536 && (inB (bt a) 43008 && inB (bt b) 1536))) || (inB (bt a) 1024 && inB (bt b) 2048) || ((inB (bt a) 1024 && inB (bt b) 4096 && inB (bt b2) 1024) || (inB (bt a2) 1024 && (inB (bt a) 4096 && inB (bt b) 1024))) || (inB (bt a) 65536 && inB (bt b) 65536) || (inB (bt a) 1536 && inB (bt b) 65536) || (inB (bt a) 65536 && inB (bt b) 1536) || ((inB (bt a) 65536 && inB (bt b) 51200 && inB (bt b2) 65536) || (inB (bt a2) 65536 && (inB (bt a) 51200 && inB (bt b) 65536))) || (inB (bt a) 131072 && inB (bt b) 131072) || (inB (bt a) 460288 && inB (bt b) 262144) || (inB (bt a) 262144 && inB (bt b) 198144)) := by
  rw [join_prog]
  simp only [in_1536 a2 h2, in_1536 a ha, in_1536 b hb, in_1536 b2 hb2, in_43008 a2 h2, in_43008 a ha, in_43008 b hb, in_43008 b2 hb2, in_1024 a2 h2, in_1024 a ha, in_1024 b hb, in_1024 b2 hb2, in_2048 a2 h2, in_2048 a ha, in_2048 b hb, in_2048 b2 hb2, in_4096 a2 h2, in_4096 a ha, in_4096 b hb, in_4096 b2 hb2, in_65536 a2 h2, in_65536 a ha, in_65536 b hb, in_65536 b2 hb2, in_51200 a2 h2, in_51200 a ha, in_51200 b hb, in_51200 b2 hb2, in_131072 a2 h2, in_131072 a ha, in_131072 b hb, in_131072 b2 hb2, in_460288 a2 h2, in_460288 a ha, in_460288 b hb, in_460288 b2 hb2, in_262144 a2 h2, in_262144 a ha, in_262144 b hb, in_262144 b2 hb2, in_198144 a2 h2, in_198144 a ha, in_198144 b hb, in_198144 b2 hb2]
set_option maxRecDepth 1000000 in
theorem pair_any (A B x y : Int) (p3 p4 : Nat) (W : World) (h3 : W.cell? ⟨p3, 0, none⟩ = some (.int .u32 x)) (h4 : W.cell? ⟨p4, 0, none⟩ = some (.int .u32 y)) :
    Calls Tryz.prog 69 #[.int .u32 A, .int .u32 B, .pointer (some ⟨p3, 0, none⟩), .pointer (some ⟨p4, 0, none⟩)] W fun e w' => e = .returned (.bool (inB x A && inB y B)) ∧ w' = W := by
  have C := in_any x A W
  have C2 : Hid (Calls Tryz.prog 66 #[.int .u32 y, .int .u32 B] W fun e w' => e = .returned (.bool (inB y B)) ∧ w' = W) := in_any y B W
  generalize inB y B = Y at *
  cases hX : inB x A with
  | false =>
    rw [hX] at C
    rw [Bool.false_and]
    clear hX C2
    go_enter Tryz.func69, Tryz.ntmps69
    go_wp2_with fail
    refine C.mono ?_
    rintro e w1 ⟨rfl, hw⟩
    rw [hw]
    clear C hw w1
    go_wp2
    go_ret
    exact ⟨rfl, rfl⟩
  | true =>
    rw [hX] at C
    rw [Bool.true_and]
    clear hX
    go_enter Tryz.func69, Tryz.ntmps69
    go_wp2_with fail
    refine C.mono ?_
    rintro e w1 ⟨rfl, hw⟩
    rw [hw]
    clear C hw w1
    have C := C2.out
    clear C2
    go_wp2_with fail
    refine C.mono ?_
    rintro e w1 ⟨rfl, hw⟩
    rw [hw]
    clear C hw w1
    go_wp2
    go_ret
    exact ⟨rfl, rfl⟩
set_option maxHeartbeats 2000000 in
set_option maxRecDepth 1000000 in
theorem bridge_any (S M x y a2 b2 : Int) (p4 p5 p6 p7 p8 : Nat) (W : World) (h4 : W.cell? ⟨p4, 0, none⟩ = some (.int .u32 a2)) (h5 : W.cell? ⟨p5, 0, none⟩ = some (.int .u32 x)) (h6 : W.cell? ⟨p6, 0, none⟩ = some (.int .u32 y)) (h7 : W.cell? ⟨p7, 0, none⟩ = some (.int .u32 b2)) (h8 : W.cell? ⟨p8, 0, none⟩ = some (.func (.func 69) #[] #[.pointer (some ⟨p5, 0, none⟩), .pointer (some ⟨p6, 0, none⟩)])) :
    Calls Tryz.prog 70 #[.int .u32 S, .int .u32 M, .pointer (some ⟨p8, 0, none⟩), .pointer (some ⟨p7, 0, none⟩), .pointer (some ⟨p4, 0, none⟩)] W fun e w' => e = .returned (.bool ((inB x S && inB y M && inB b2 S) || (inB a2 S && (inB x M && inB y S)))) ∧ w' = W := by
  have C1 : Hid (Calls Tryz.prog 69 #[.int .u32 S, .int .u32 M, .pointer (some ⟨p5, 0, none⟩), .pointer (some ⟨p6, 0, none⟩)] W fun e w' => e = .returned (.bool (inB x S && inB y M)) ∧ w' = W) := pair_any S M x y p5 p6 W h5 h6
  have C2 : Hid (Calls Tryz.prog 66 #[.int .u32 b2, .int .u32 S] W fun e w' => e = .returned (.bool (inB b2 S)) ∧ w' = W) := in_any b2 S W
  have C3 : Hid (Calls Tryz.prog 66 #[.int .u32 a2, .int .u32 S] W fun e w' => e = .returned (.bool (inB a2 S)) ∧ w' = W) := in_any a2 S W
  have C4 : Hid (Calls Tryz.prog 69 #[.int .u32 M, .int .u32 S, .pointer (some ⟨p5, 0, none⟩), .pointer (some ⟨p6, 0, none⟩)] W fun e w' => e = .returned (.bool (inB x M && inB y S)) ∧ w' = W) := pair_any M S x y p5 p6 W h5 h6
  clear h5 h6
  generalize (inB x S && inB y M) = X1 at *
  generalize inB b2 S = X2 at *
  generalize inB a2 S = X3 at *
  generalize (inB x M && inB y S) = X4 at *
  cases X1 with
  | false =>
    cases X3 with
    | false =>
      go_enter Tryz.func70, Tryz.ntmps70
      have C := C1.out
      clear C1
      go_wp2_with fail
      refine C.mono ?_
      rintro e w1 ⟨rfl, hw⟩
      rw [hw]
      clear C hw w1
      have C := C3.out
      clear C3
      go_wp2_with fail
      refine C.mono ?_
      rintro e w1 ⟨rfl, hw⟩
      rw [hw]
      clear C hw w1
      go_wp2
      go_ret
      exact ⟨by first | rfl | simp, rfl⟩
    | true =>
      go_enter Tryz.func70, Tryz.ntmps70
      have C := C1.out
      clear C1
      go_wp2_with fail
      refine C.mono ?_
      rintro e w1 ⟨rfl, hw⟩
      rw [hw]
      clear C hw w1
      have C := C3.out
      clear C3
      go_wp2_with fail
      refine C.mono ?_
      rintro e w1 ⟨rfl, hw⟩
      rw [hw]
      clear C hw w1
      have C := C4.out
      clear C4
      go_wp2_with fail
      refine C.mono ?_
      rintro e w1 ⟨rfl, hw⟩
      rw [hw]
      clear C hw w1
      go_wp2
      go_ret
      exact ⟨by first | rfl | simp, rfl⟩
  | true =>
    cases X2 with
    | true =>
      go_enter Tryz.func70, Tryz.ntmps70
      have C := C1.out
      clear C1
      go_wp2_with fail
      refine C.mono ?_
      rintro e w1 ⟨rfl, hw⟩
      rw [hw]
      clear C hw w1
      have C := C2.out
      clear C2
      go_wp2_with fail
      refine C.mono ?_
      rintro e w1 ⟨rfl, hw⟩
      rw [hw]
      clear C hw w1
      go_wp2
      go_ret
      exact ⟨by first | rfl | simp, rfl⟩
    | false =>
      cases X3 with
      | false =>
        go_enter Tryz.func70, Tryz.ntmps70
        have C := C1.out
        clear C1
        go_wp2_with fail
        refine C.mono ?_
        rintro e w1 ⟨rfl, hw⟩
        rw [hw]
        clear C hw w1
        have C := C2.out
        clear C2
        go_wp2_with fail
        refine C.mono ?_
        rintro e w1 ⟨rfl, hw⟩
        rw [hw]
        clear C hw w1
        have C := C3.out
        clear C3
        go_wp2_with fail
        refine C.mono ?_
        rintro e w1 ⟨rfl, hw⟩
        rw [hw]
        clear C hw w1
        go_wp2
        go_ret
        exact ⟨by first | rfl | simp, rfl⟩
      | true =>
        go_enter Tryz.func70, Tryz.ntmps70
        have C := C1.out
        clear C1
        go_wp2_with fail
        refine C.mono ?_
        rintro e w1 ⟨rfl, hw⟩
        rw [hw]
        clear C hw w1
        have C := C2.out
        clear C2
        go_wp2_with fail
        refine C.mono ?_
        rintro e w1 ⟨rfl, hw⟩
        rw [hw]
        clear C hw w1
        have C := C3.out
        clear C3
        go_wp2_with fail
        refine C.mono ?_
        rintro e w1 ⟨rfl, hw⟩
        rw [hw]
        clear C hw w1
        have C := C4.out
        clear C4
        go_wp2_with fail
        refine C.mono ?_
        rintro e w1 ⟨rfl, hw⟩
        rw [hw]
        clear C hw w1
        go_wp2
        go_ret
        exact ⟨by first | rfl | simp, rfl⟩
set_option maxHeartbeats 4000000 in
set_option maxRecDepth 1000000 in
theorem far_t (t : Nat) (ao : Option Addr) (N cap : Nat) (l : List Int) (n : Nat) (w : World) (h : Tabs w t) (hv : Txt w ao N cap l) (h0 : 0 < n) (hn : n < N) :
    Calls Tryz.prog 40 #[.agg #[.pointer (some ⟨t, 0, none⟩), .slice ao N cap, .int .i64 (n : Int)]] w fun e w' => e = .returned (.int .i64 (if (joinB (hdK (skip (skip (bk l n)).tail)) (hdK (skip (bk l n))) (hdK (fw l n)) (hdK (skip (fw l n).tail)) || (hdK (fw l n) == 19 && flW (bk l n) % 2 == 1)) = true then 2 else 0)) ∧ Below w.heap.size w w' := by
  have hl := hv.length
  have hlen := hv.len
  have BA0 : Below w.heap.size w (w.alloc (.cells #[.pointer (some ⟨t, 0, none⟩), .slice ao N cap, .int .i64 (n : Int)] 69)) := (Below.refl _ w).alloc (Nat.le_refl _) _
  have nb := World.alloc_heap_new w (.cells #[.pointer (some ⟨t, 0, none⟩), .slice ao N cap, .int .i64 (n : Int)] 69)
  have hW0s : w.heap.size ≤ (w.alloc (.cells #[.pointer (some ⟨t, 0, none⟩), .slice ao N cap, .int .i64 (n : Int)] 69)).heap.size := BA0.size
  have HKI : Hid (∀ (W : World) (i : Int), Below w.heap.size w W → Calls Tryz.prog 64 #[.agg #[.pointer (some ⟨t, 0, none⟩), .slice ao N cap, .int .i64 (n : Int)], .int .i64 i] W fun e w' => e = .returned (.int .u32 (bt (kAt l i))) ∧ Below W.heap.size W w') := fun W i hb => kind_t t ao N cap l n i W (h.below hb) (hv.below hb)
  have hx : l[n]? = some l[n] := List.getElem?_eq_getElem (by omega)
  have hft : (fw l n).tail = fw l (n + 1) := by rw [fw_cons hx]; rfl
  have hsk := skip_bk (l := l) (n := n) (by omega)
  have hal := aN_le l n
  have r2 : -1 ≤ hdK (skip (bk l (aN l n)).tail) ∧ hdK (skip (bk l (aN l n)).tail) ≤ 19 := by
    cases hm : aN l n with
    | zero => exact ⟨by show (-1 : Int) ≤ -1; decide, by show (-1 : Int) ≤ 19; decide⟩
    | succ k =>
      rw [bk_tail (by omega), skip_bk (by omega), ← kAt_bk (by have := aN_le l k; omega)]
      exact kAt_range _ _
  have ra : -1 ≤ hdK (bk l (aN l n)) ∧ hdK (bk l (aN l n)) ≤ 19 := by rw [← kAt_bk (by omega)]; exact kAt_range _ _
  have rb : -1 ≤ hdK (fw l n) ∧ hdK (fw l n) ≤ 19 := by rw [← kAt_fw]; exact kAt_range _ _
  have hs2 : ∃ j, kAt l j = hdK (skip (fw l (n + 1))) := by
    have key : ∀ (d m : Nat), l.length - m = d → m ≤ l.length → ∃ j, kAt l j = hdK (skip (fw l m)) := by
      intro d
      induction d with
      | zero => intro m hd hm; exact ⟨-1, by rw [fw_end (by omega), kAt_out (.inl (by omega))]; rfl⟩
      | succ d ih =>
        intro m hd hm
        cases hp : passB (kAt l (m : Int)) with
        | false => exact ⟨m, ((fw_at hm).1 hp).symm⟩
        | true =>
          obtain ⟨q1, q2⟩ := (fw_at hm).2 hp
          rw [q2]
          exact ih (m + 1) (by omega) (by omega)
    exact key _ (n + 1) rfl (by omega)
  have rb2 : -1 ≤ hdK (skip (fw l (n + 1))) ∧ hdK (skip (fw l (n + 1))) ≤ 19 := by obtain ⟨j, hj⟩ := hs2; rw [← hj]; exact kAt_range _ _
  rw [hft, hsk, far_bits _ _ _ _ r2 ra rb rb2]
  have HA1 : Hid (Calls Tryz.prog 67 #[.agg #[.pointer (some ⟨t, 0, none⟩), .slice ao N cap, .int .i64 (n : Int)], .int .i64 (n : Int)] (w.alloc (.cells #[.pointer (some ⟨t, 0, none⟩), .slice ao N cap, .int .i64 (n : Int)] 69)) fun e w' => e = .returned (.int .i64 ((aN l n : Int) - 1)) ∧ Below (w.alloc (.cells #[.pointer (some ⟨t, 0, none⟩), .slice ao N cap, .int .i64 (n : Int)] 69)).heap.size (w.alloc (.cells #[.pointer (some ⟨t, 0, none⟩), .slice ao N cap, .int .i64 (n : Int)] 69)) w') := ahead_t t ao N cap l n n _ (h.below BA0) (hv.below BA0) (by omega)
  have HA2 : Hid (∀ (W : World), Below w.heap.size w W → Calls Tryz.prog 67 #[.agg #[.pointer (some ⟨t, 0, none⟩), .slice ao N cap, .int .i64 (n : Int)], .int .i64 ((aN l n : Int) - 1)] W fun e w' => ∃ j : Int, e = .returned (.int .i64 j) ∧ Hid (kAt l j = hdK (skip (bk l (aN l n)).tail)) ∧ Below W.heap.size W w') := fun W hb => ahead2_t t ao N cap l n (aN l n) W (h.below hb) (hv.below hb) (by omega)
  have HBH : Hid (∀ (W : World), Below w.heap.size w W → Calls Tryz.prog 68 #[.agg #[.pointer (some ⟨t, 0, none⟩), .slice ao N cap, .int .i64 (n : Int)], .int .i64 (n : Int)] W fun e w' => ∃ j : Int, e = .returned (.int .i64 j) ∧ Hid (kAt l j = hdK (skip (fw l (n + 1)))) ∧ Below W.heap.size W w') := fun W hb => behind_t t ao N cap l n n W (h.below hb) (hv.below hb) hn
  have HK2 : Hid (∀ (W : World) (j : Int), Hid (kAt l j = hdK (skip (bk l (aN l n)).tail)) → Below w.heap.size w W → Calls Tryz.prog 64 #[.agg #[.pointer (some ⟨t, 0, none⟩), .slice ao N cap, .int .i64 (n : Int)], .int .i64 j] W fun e w' => e = .returned (.int .u32 (bt (hdK (skip (bk l (aN l n)).tail)))) ∧ Below W.heap.size W w') := fun W j hj hb => by rw [← hj.out]; exact HKI.out W j hb
  have HK4 : Hid (∀ (W : World) (j : Int), Hid (kAt l j = hdK (skip (fw l (n + 1)))) → Below w.heap.size w W → Calls Tryz.prog 64 #[.agg #[.pointer (some ⟨t, 0, none⟩), .slice ao N cap, .int .i64 (n : Int)], .int .i64 j] W fun e w' => e = .returned (.int .u32 (bt (hdK (skip (fw l (n + 1)))))) ∧ Below W.heap.size W w') := fun W j hj hb => by rw [← hj.out]; exact HKI.out W j hb
  have HK1 : Hid (∀ (W : World), Below w.heap.size w W → Calls Tryz.prog 64 #[.agg #[.pointer (some ⟨t, 0, none⟩), .slice ao N cap, .int .i64 (n : Int)], .int .i64 ((aN l n : Int) - 1)] W fun e w' => e = .returned (.int .u32 (bt (hdK (bk l (aN l n))))) ∧ Below W.heap.size W w') := fun W hb => by rw [← kAt_bk (by omega)]; exact HKI.out W _ hb
  have HK3 : Hid (∀ (W : World), Below w.heap.size w W → Calls Tryz.prog 64 #[.agg #[.pointer (some ⟨t, 0, none⟩), .slice ao N cap, .int .i64 (n : Int)], .int .i64 (n : Int)] W fun e w' => e = .returned (.int .u32 (bt (hdK (fw l n)))) ∧ Below W.heap.size W w') := fun W hb => by rw [← kAt_fw]; exact HKI.out W _ hb
  have HFL : Hid (∀ (W : World), Below w.heap.size w W → Calls Tryz.prog 71 #[.agg #[.pointer (some ⟨t, 0, none⟩), .slice ao N cap, .int .i64 (n : Int)]] W fun e w' => e = .returned (.bool (hdK (fw l n) == 19 && flW (bk l n) % 2 == 1)) ∧ Below W.heap.size W w') := fun W hb => by rw [← kAt_fw]; exact flags_t t ao N cap l n W (h.below hb) (hv.below hb) hn
  clear h hv hl hx hft hsk r2 ra rb hs2 rb2 HKI hal
  generalize (hdK (fw l n) == 19 && flW (bk l n) % 2 == 1) = X11 at *
  generalize hdK (skip (bk l (aN l n)).tail) = k2 at *
  generalize hdK (bk l (aN l n)) = k1 at *
  generalize hdK (fw l n) = k3 at *
  generalize hdK (skip (fw l (n + 1))) = k4 at *
  generalize bt k2 = a2 at *
  generalize bt k1 = x at *
  generalize bt k3 = y at *
  generalize bt k4 = b2 at *
  generalize ((aN l n : Int) - 1) = M at *
  obtain ⟨X0, hq0⟩ : ∃ X, (inB x 1536 && inB y 1536) = X := ⟨_, rfl⟩
  obtain ⟨X1, hq1⟩ : ∃ X, ((inB x 1536 && inB y 43008 && inB b2 1536) || (inB a2 1536 && (inB x 43008 && inB y 1536))) = X := ⟨_, rfl⟩
  obtain ⟨X2, hq2⟩ : ∃ X, (inB x 1024 && inB y 2048) = X := ⟨_, rfl⟩
  obtain ⟨X3, hq3⟩ : ∃ X, ((inB x 1024 && inB y 4096 && inB b2 1024) || (inB a2 1024 && (inB x 4096 && inB y 1024))) = X := ⟨_, rfl⟩
  obtain ⟨X4, hq4⟩ : ∃ X, (inB x 65536 && inB y 65536) = X := ⟨_, rfl⟩
  obtain ⟨X5, hq5⟩ : ∃ X, (inB x 1536 && inB y 65536) = X := ⟨_, rfl⟩
  obtain ⟨X6, hq6⟩ : ∃ X, (inB x 65536 && inB y 1536) = X := ⟨_, rfl⟩
  obtain ⟨X7, hq7⟩ : ∃ X, ((inB x 65536 && inB y 51200 && inB b2 65536) || (inB a2 65536 && (inB x 51200 && inB y 65536))) = X := ⟨_, rfl⟩
  obtain ⟨X8, hq8⟩ : ∃ X, (inB x 131072 && inB y 131072) = X := ⟨_, rfl⟩
  obtain ⟨X9, hq9⟩ : ∃ X, (inB x 460288 && inB y 262144) = X := ⟨_, rfl⟩
  obtain ⟨X10, hq10⟩ : ∃ X, (inB x 262144 && inB y 198144) = X := ⟨_, rfl⟩
  rw [hq0, hq1, hq2, hq3, hq4, hq5, hq6, hq7, hq8, hq9, hq10]
  have q0 : Hid ((inB x 1536 && inB y 1536) = X0) := hq0
  have q1 : Hid (((inB x 1536 && inB y 43008 && inB b2 1536) || (inB a2 1536 && (inB x 43008 && inB y 1536))) = X1) := hq1
  have q2 : Hid ((inB x 1024 && inB y 2048) = X2) := hq2
  have q3 : Hid (((inB x 1024 && inB y 4096 && inB b2 1024) || (inB a2 1024 && (inB x 4096 && inB y 1024))) = X3) := hq3
  have q4 : Hid ((inB x 65536 && inB y 65536) = X4) := hq4
  have q5 : Hid ((inB x 1536 && inB y 65536) = X5) := hq5
  have q6 : Hid ((inB x 65536 && inB y 1536) = X6) := hq6
  have q7 : Hid (((inB x 65536 && inB y 51200 && inB b2 65536) || (inB a2 65536 && (inB x 51200 && inB y 65536))) = X7) := hq7
  have q8 : Hid ((inB x 131072 && inB y 131072) = X8) := hq8
  have q9 : Hid ((inB x 460288 && inB y 262144) = X9) := hq9
  have q10 : Hid ((inB x 262144 && inB y 198144) = X10) := hq10
  clear hq0 hq1 hq2 hq3 hq4 hq5 hq6 hq7 hq8 hq9 hq10
  have HBA : Hid (Below w.heap.size w (w.alloc (.cells #[.pointer (some ⟨t, 0, none⟩), .slice ao N cap, .int .i64 (n : Int)] 69))) := BA0
  clear BA0
  generalize hW0 : w.alloc (.cells #[.pointer (some ⟨t, 0, none⟩), .slice ao N cap, .int .i64 (n : Int)] 69) = W0 at *
  have d0 := cell_of_row _ w.heap.size 0 _ _ _ nb
  have d1 := cell_of_row _ w.heap.size 1 _ _ _ nb
  have d2 := cell_of_row _ w.heap.size 2 _ _ _ nb
  simp at d0 d1 d2
  have hgb : w.heap.size < W0.heap.size := (Array.getElem?_eq_some_iff.1 nb).1
  clear nb
  go_enter Tryz.func40, Tryz.ntmps40
  have C := HA1.out
  clear HA1
  go_wp2_with fail
  try rw [hW0]
  refine C.mono ?_
  rintro e wa ⟨rfl, ba⟩
  clear C hW0
  have Ba : Below w.heap.size w wa := HBA.out.trans (ba.mono HBA.out.size)
  have hsa : w.heap.size ≤ wa.heap.size := Ba.size
  have hga : w.heap.size < wa.heap.size := Nat.lt_of_lt_of_le hgb ba.size
  have e0 := cell_below ba d0
  have e1 := cell_below ba d1
  have e2 := cell_below ba d2
  have HBa : Hid (Below w.heap.size w wa) := Ba
  clear d0 d1 d2 ba HBA hW0s Ba
  go_wp2
  refine region_k (ι := Nat × Nat × Int) (puts := fun v a => ((((((((((a.put (some 14) (.agg #[.pointer (some ⟨t, 0, none⟩), .slice ao N cap, .int .i64 (n : Int)])).put (some 15) (.agg #[.pointer (some ⟨t, 0, none⟩), .slice ao N cap, .int .i64 (n : Int)])).put (some 16) (.int .i64 M)).put (some 17) (.int .i64 v.2.2)).put (some 18) (.int .u32 a2)).put (some 19) (.agg #[.pointer (some ⟨t, 0, none⟩), .slice ao N cap, .int .i64 (n : Int)])).put (some 20) (.int .i64 M)).put (some 21) (.int .u32 x)).put (some 4) (.pointer (some ⟨v.1, 0, none⟩))).put (some 5) (.pointer (some ⟨v.2.1, 0, none⟩))))
    (G := fun v W => Below w.heap.size w W ∧ Below wa.heap.size wa W ∧ W.heap[v.1]? = some (.cells #[.int .u32 a2] 98 (0, 0)) ∧ W.heap[v.2.1]? = some (.cells #[.int .u32 x] 98 (0, 0))) ?_ ?_
  · refine wp_region_noPanic ?_
    refine wp_region_held_drew (S := fun w' => w'.cell? ⟨w.heap.size, 0, none⟩ = some (.pointer (some ⟨t, 0, none⟩)) ∧ w'.cell? ⟨w.heap.size, 1, none⟩ = some (.slice ao N cap) ∧ w'.cell? ⟨w.heap.size, 2, none⟩ = some (.int .i64 (n : Int))) (by kernel_rfl) ⟨e0, e1, e2⟩ (fun hHeld => ?_)
    have R : Rg w wa w.heap.size (.pointer (some ⟨t, 0, none⟩)) (.slice ao N cap) (.int .i64 (n : Int)) wa.drew := ⟨HBa.out.drew, (Below.refl _ wa).drew, by simpa using e0, by simpa using e1, by simpa using e2⟩
    generalize wa.drew = w1 at *
    refine wpAnyH_take (i := 0) (v := ?_) rfl (by kernel_rfl) (by kernel_rfl) (by kernel_rfl) (fun _ _ _ h => h) (Or.inl ⟨by rfl, ?_⟩) (by assumption) ?_
    rotate_left
    · (intro w' hSw; (try dsimp only at hSw); go_simp; try with_reducible rfl)
    try simp only [Act.put, List.getElem_toArray, List.getElem_cons_zero, List.getElem_cons_succ, List.setIfInBounds_toArray, List.set_cons_zero, List.set_cons_succ]
    refine wpAnyH_take (i := 1) (v := ?_) rfl (by kernel_rfl) (by kernel_rfl) (by kernel_rfl) (fun _ _ _ h => h) (Or.inl ⟨by rfl, ?_⟩) (by assumption) ?_
    rotate_left
    · (intro w' hSw; (try dsimp only at hSw); go_simp; try with_reducible rfl)
    try simp only [Act.put, List.getElem_toArray, List.getElem_cons_zero, List.getElem_cons_succ, List.setIfInBounds_toArray, List.set_cons_zero, List.set_cons_succ]
    refine wpAnyH_take (i := 2) (v := ?_) rfl (by kernel_rfl) (by kernel_rfl) (by kernel_rfl) (fun _ _ _ h => h) (Or.inl ⟨by rfl, ?_⟩) (by assumption) ?_
    rotate_left
    · (intro w' hSw; (try dsimp only at hSw); go_simp; try with_reducible rfl)
    try simp only [Act.put, List.getElem_toArray, List.getElem_cons_zero, List.getElem_cons_succ, List.setIfInBounds_toArray, List.set_cons_zero, List.set_cons_succ]
    refine wpAnyH_take (i := 5) (v := ?_) rfl (by kernel_rfl) (by kernel_rfl) (by kernel_rfl) (fun _ _ _ h => h) (Or.inl ⟨by rfl, ?_⟩) (by assumption) ?_
    rotate_left
    · (intro w' hSw; (try dsimp only at hSw); go_simp; try with_reducible rfl)
    try simp only [Act.put, List.getElem_toArray, List.getElem_cons_zero, List.getElem_cons_succ, List.setIfInBounds_toArray, List.set_cons_zero, List.set_cons_succ]
    refine wpAnyH_take (i := 6) (v := ?_) rfl (by kernel_rfl) (by kernel_rfl) (by kernel_rfl) (fun _ _ _ h => h) (Or.inl ⟨by rfl, ?_⟩) (by assumption) ?_
    rotate_left
    · (intro w' hSw; (try dsimp only at hSw); go_simp; try with_reducible rfl)
    try simp only [Act.put, List.getElem_toArray, List.getElem_cons_zero, List.getElem_cons_succ, List.setIfInBounds_toArray, List.set_cons_zero, List.set_cons_succ]
    refine wpAnyH_ready (rs := [3, 8, 9]) (by kernel_rfl) (by simp) ?_
    refine AllReadyH.cons rfl (fun K hK => ?_) ?_
    · go_simp
      refine (HA2.out _ R.B).mono ?_
      rintro e w2 ⟨j, rfl, hj, bq⟩
      replace R := R.call bq
      refine hK.out _ _ R.S (fun hHeld2 => ?_)
      clear bq; clear hK K hHeld; have hHeld := hHeld2; clear hHeld2
      try simp only [Act.put, List.getElem_toArray, List.getElem_cons_zero, List.getElem_cons_succ, List.setIfInBounds_toArray, List.set_cons_zero, List.set_cons_succ]
      refine wpAnyH_ready (rs := [4, 8, 9]) (by kernel_rfl) (by simp) ?_
      refine AllReadyH.cons rfl (fun K hK => ?_) ?_
      · go_simp
        refine (HK2.out _ j hj R.B).mono ?_
        rintro e w3 ⟨rfl, bq⟩
        replace R := R.call bq
        refine hK.out _ _ R.S (fun hHeld2 => ?_)
        clear bq; clear hK K hHeld; have hHeld := hHeld2; clear hHeld2
        try simp only [Act.put, List.getElem_toArray, List.getElem_cons_zero, List.getElem_cons_succ, List.setIfInBounds_toArray, List.set_cons_zero, List.set_cons_succ]
        refine wpAnyH_ready (rs := [7, 8, 9]) (by kernel_rfl) (by simp) ?_
        refine AllReadyH.cons rfl (fun K hK => ?_) ?_
        · go_simp
          refine (HK1.out _ R.B).mono ?_
          rintro e w4 ⟨rfl, bq⟩
          replace R := R.call bq
          refine hK.out _ _ R.S (fun hHeld2 => ?_)
          clear bq; clear hK K hHeld; have hHeld := hHeld2; clear hHeld2
          try simp only [Act.put, List.getElem_toArray, List.getElem_cons_zero, List.getElem_cons_succ, List.setIfInBounds_toArray, List.set_cons_zero, List.set_cons_succ]
          refine wpAnyH_ready (rs := [8, 9]) (by kernel_rfl) (by simp) ?_
          refine AllReadyH.cons rfl (fun K hK => ?_) ?_
          · go_simp
            have P4 := R.new; replace R := R.alloc (.cells #[.int .u32 0] 98)
            refine hK.out _ _ R.S (fun hHeld2 => ?_)
            clear hK K hHeld; have hHeld := hHeld2; clear hHeld2
            try simp only [Act.put, List.getElem_toArray, List.getElem_cons_zero, List.getElem_cons_succ, List.setIfInBounds_toArray, List.set_cons_zero, List.set_cons_succ]
            generalize w4.alloc (.cells #[.int .u32 0] 98) = w5 at *
            refine wpAnyH_ready (rs := [9]) (by kernel_rfl) (by simp) ?_
            refine AllReadyH.cons rfl (fun K hK => ?_) AllReadyH.nil
            go_simp
            have NE : Hid (w5.heap.size ≠ w4.heap.size) := Ne.symm P4.ne
            have P5 := R.new; replace P4 := P4.old (.cells #[.int .u32 0] 98); replace R := R.alloc (.cells #[.int .u32 0] 98)
            refine hK.out _ _ R.S (fun hHeld2 => ?_)
            clear hK K hHeld; have hHeld := hHeld2; clear hHeld2
            try simp only [Act.put, List.getElem_toArray, List.getElem_cons_zero, List.getElem_cons_succ, List.setIfInBounds_toArray, List.set_cons_zero, List.set_cons_succ]
            generalize w5.alloc (.cells #[.int .u32 0] 98) = w6 at *
            have k0 := P4.cell; have f0 := P4.frozen
            refine wpAnyH_ready (rs := [10]) (by kernel_rfl) (by simp) (AllReadyH.cons rfl (fun K hK => ?_) AllReadyH.nil)
            try simp only [Act.put, List.getElem_toArray, List.getElem_cons_zero, List.getElem_cons_succ, List.setIfInBounds_toArray, List.set_cons_zero, List.set_cons_succ]
            go_simp
            replace R := R.set P4.ge (.int .u32 a2); replace P5 := P5.other (x := .int .u32 a2) NE.out; replace P4 := P4.same (.int .u32 a2)
            refine hK.out _ _ R.S (fun hHeld2 => ?_)
            clear hK K hHeld; have hHeld := hHeld2; clear hHeld2
            try simp only [Act.put, List.getElem_toArray, List.getElem_cons_zero, List.getElem_cons_succ, List.setIfInBounds_toArray, List.set_cons_zero, List.set_cons_succ]
            clear k0 f0
            generalize w6.setCell ⟨w4.heap.size, 0, none⟩ (.int .u32 a2) = w7 at *
            have k0 := P5.cell; have f0 := P5.frozen
            refine wpAnyH_ready (rs := [11]) (by kernel_rfl) (by simp) (AllReadyH.cons rfl (fun K hK => ?_) AllReadyH.nil)
            try simp only [Act.put, List.getElem_toArray, List.getElem_cons_zero, List.getElem_cons_succ, List.setIfInBounds_toArray, List.set_cons_zero, List.set_cons_succ]
            go_simp
            replace R := R.set P5.ge (.int .u32 x); replace P4 := P4.other (x := .int .u32 x) (Ne.symm NE.out); replace P5 := P5.same (.int .u32 x)
            refine hK.out _ _ R.S (fun hHeld2 => ?_)
            clear hK K hHeld; have hHeld := hHeld2; clear hHeld2
            try simp only [Act.put, List.getElem_toArray, List.getElem_cons_zero, List.getElem_cons_succ, List.setIfInBounds_toArray, List.set_cons_zero, List.set_cons_succ]
            clear k0 f0
            generalize w7.setCell ⟨w5.heap.size, 0, none⟩ (.int .u32 x) = w8 at *
            exact wpAnyH_done (by kernel_rfl) (NoPanic.normal ⟨rfl, (w4.heap.size, w5.heap.size, j), rfl, R.B, R.D, P4.hp, P5.hp⟩) _
          refine AllReadyH.cons rfl (fun K hK => ?_) AllReadyH.nil
          go_simp
          have P5 := R.new; replace R := R.alloc (.cells #[.int .u32 0] 98)
          refine hK.out _ _ R.S (fun hHeld2 => ?_)
          clear hK K hHeld; have hHeld := hHeld2; clear hHeld2
          try simp only [Act.put, List.getElem_toArray, List.getElem_cons_zero, List.getElem_cons_succ, List.setIfInBounds_toArray, List.set_cons_zero, List.set_cons_succ]
          generalize w4.alloc (.cells #[.int .u32 0] 98) = w5 at *
          refine wpAnyH_ready (rs := [8]) (by kernel_rfl) (by simp) ?_
          refine AllReadyH.cons rfl (fun K hK => ?_) AllReadyH.nil
          go_simp
          have NE : Hid (w4.heap.size ≠ w5.heap.size) := P5.ne
          have P4 := R.new; replace P5 := P5.old (.cells #[.int .u32 0] 98); replace R := R.alloc (.cells #[.int .u32 0] 98)
          refine hK.out _ _ R.S (fun hHeld2 => ?_)
          clear hK K hHeld; have hHeld := hHeld2; clear hHeld2
          try simp only [Act.put, List.getElem_toArray, List.getElem_cons_zero, List.getElem_cons_succ, List.setIfInBounds_toArray, List.set_cons_zero, List.set_cons_succ]
          generalize w5.alloc (.cells #[.int .u32 0] 98) = w6 at *
          have k0 := P4.cell; have f0 := P4.frozen
          refine wpAnyH_ready (rs := [10]) (by kernel_rfl) (by simp) (AllReadyH.cons rfl (fun K hK => ?_) AllReadyH.nil)
          try simp only [Act.put, List.getElem_toArray, List.getElem_cons_zero, List.getElem_cons_succ, List.setIfInBounds_toArray, List.set_cons_zero, List.set_cons_succ]
          go_simp
          replace R := R.set P4.ge (.int .u32 a2); replace P5 := P5.other (x := .int .u32 a2) NE.out; replace P4 := P4.same (.int .u32 a2)
          refine hK.out _ _ R.S (fun hHeld2 => ?_)
          clear hK K hHeld; have hHeld := hHeld2; clear hHeld2
          try simp only [Act.put, List.getElem_toArray, List.getElem_cons_zero, List.getElem_cons_succ, List.setIfInBounds_toArray, List.set_cons_zero, List.set_cons_succ]
          clear k0 f0
          generalize w6.setCell ⟨w5.heap.size, 0, none⟩ (.int .u32 a2) = w7 at *
          have k0 := P5.cell; have f0 := P5.frozen
          refine wpAnyH_ready (rs := [11]) (by kernel_rfl) (by simp) (AllReadyH.cons rfl (fun K hK => ?_) AllReadyH.nil)
          try simp only [Act.put, List.getElem_toArray, List.getElem_cons_zero, List.getElem_cons_succ, List.setIfInBounds_toArray, List.set_cons_zero, List.set_cons_succ]
          go_simp
          replace R := R.set P5.ge (.int .u32 x); replace P4 := P4.other (x := .int .u32 x) (Ne.symm NE.out); replace P5 := P5.same (.int .u32 x)
          refine hK.out _ _ R.S (fun hHeld2 => ?_)
          clear hK K hHeld; have hHeld := hHeld2; clear hHeld2
          try simp only [Act.put, List.getElem_toArray, List.getElem_cons_zero, List.getElem_cons_succ, List.setIfInBounds_toArray, List.set_cons_zero, List.set_cons_succ]
          clear k0 f0
          generalize w7.setCell ⟨w4.heap.size, 0, none⟩ (.int .u32 x) = w8 at *
          exact wpAnyH_done (by kernel_rfl) (NoPanic.normal ⟨rfl, (w5.heap.size, w4.heap.size, j), rfl, R.B, R.D, P4.hp, P5.hp⟩) _
        refine AllReadyH.cons rfl (fun K hK => ?_) ?_
        · go_simp
          have P4 := R.new; replace R := R.alloc (.cells #[.int .u32 0] 98)
          refine hK.out _ _ R.S (fun hHeld2 => ?_)
          clear hK K hHeld; have hHeld := hHeld2; clear hHeld2
          try simp only [Act.put, List.getElem_toArray, List.getElem_cons_zero, List.getElem_cons_succ, List.setIfInBounds_toArray, List.set_cons_zero, List.set_cons_succ]
          generalize w3.alloc (.cells #[.int .u32 0] 98) = w4 at *
          refine wpAnyH_ready (rs := [7, 9]) (by kernel_rfl) (by simp) ?_
          refine AllReadyH.cons rfl (fun K hK => ?_) ?_
          · go_simp
            refine (HK1.out _ R.B).mono ?_
            rintro e w5 ⟨rfl, bq⟩
            replace R := R.call bq; replace P4 := P4.call bq
            refine hK.out _ _ R.S (fun hHeld2 => ?_)
            clear bq; clear hK K hHeld; have hHeld := hHeld2; clear hHeld2
            try simp only [Act.put, List.getElem_toArray, List.getElem_cons_zero, List.getElem_cons_succ, List.setIfInBounds_toArray, List.set_cons_zero, List.set_cons_succ]
            refine wpAnyH_ready (rs := [9]) (by kernel_rfl) (by simp) ?_
            refine AllReadyH.cons rfl (fun K hK => ?_) AllReadyH.nil
            go_simp
            have NE : Hid (w5.heap.size ≠ w3.heap.size) := Ne.symm P4.ne
            have P5 := R.new; replace P4 := P4.old (.cells #[.int .u32 0] 98); replace R := R.alloc (.cells #[.int .u32 0] 98)
            refine hK.out _ _ R.S (fun hHeld2 => ?_)
            clear hK K hHeld; have hHeld := hHeld2; clear hHeld2
            try simp only [Act.put, List.getElem_toArray, List.getElem_cons_zero, List.getElem_cons_succ, List.setIfInBounds_toArray, List.set_cons_zero, List.set_cons_succ]
            generalize w5.alloc (.cells #[.int .u32 0] 98) = w6 at *
            have k0 := P4.cell; have f0 := P4.frozen
            refine wpAnyH_ready (rs := [10]) (by kernel_rfl) (by simp) (AllReadyH.cons rfl (fun K hK => ?_) AllReadyH.nil)
            try simp only [Act.put, List.getElem_toArray, List.getElem_cons_zero, List.getElem_cons_succ, List.setIfInBounds_toArray, List.set_cons_zero, List.set_cons_succ]
            go_simp
            replace R := R.set P4.ge (.int .u32 a2); replace P5 := P5.other (x := .int .u32 a2) NE.out; replace P4 := P4.same (.int .u32 a2)
            refine hK.out _ _ R.S (fun hHeld2 => ?_)
            clear hK K hHeld; have hHeld := hHeld2; clear hHeld2
            try simp only [Act.put, List.getElem_toArray, List.getElem_cons_zero, List.getElem_cons_succ, List.setIfInBounds_toArray, List.set_cons_zero, List.set_cons_succ]
            clear k0 f0
            generalize w6.setCell ⟨w3.heap.size, 0, none⟩ (.int .u32 a2) = w7 at *
            have k0 := P5.cell; have f0 := P5.frozen
            refine wpAnyH_ready (rs := [11]) (by kernel_rfl) (by simp) (AllReadyH.cons rfl (fun K hK => ?_) AllReadyH.nil)
            try simp only [Act.put, List.getElem_toArray, List.getElem_cons_zero, List.getElem_cons_succ, List.setIfInBounds_toArray, List.set_cons_zero, List.set_cons_succ]
            go_simp
            replace R := R.set P5.ge (.int .u32 x); replace P4 := P4.other (x := .int .u32 x) (Ne.symm NE.out); replace P5 := P5.same (.int .u32 x)
            refine hK.out _ _ R.S (fun hHeld2 => ?_)
            clear hK K hHeld; have hHeld := hHeld2; clear hHeld2
            try simp only [Act.put, List.getElem_toArray, List.getElem_cons_zero, List.getElem_cons_succ, List.setIfInBounds_toArray, List.set_cons_zero, List.set_cons_succ]
            clear k0 f0
            generalize w7.setCell ⟨w5.heap.size, 0, none⟩ (.int .u32 x) = w8 at *
            exact wpAnyH_done (by kernel_rfl) (NoPanic.normal ⟨rfl, (w3.heap.size, w5.heap.size, j), rfl, R.B, R.D, P4.hp, P5.hp⟩) _
          refine AllReadyH.cons rfl (fun K hK => ?_) AllReadyH.nil
          go_simp
          have NE : Hid (w4.heap.size ≠ w3.heap.size) := Ne.symm P4.ne
          have P5 := R.new; replace P4 := P4.old (.cells #[.int .u32 0] 98); replace R := R.alloc (.cells #[.int .u32 0] 98)
          refine hK.out _ _ R.S (fun hHeld2 => ?_)
          clear hK K hHeld; have hHeld := hHeld2; clear hHeld2
          try simp only [Act.put, List.getElem_toArray, List.getElem_cons_zero, List.getElem_cons_succ, List.setIfInBounds_toArray, List.set_cons_zero, List.set_cons_succ]
          generalize w4.alloc (.cells #[.int .u32 0] 98) = w5 at *
          refine wpAnyH_ready (rs := [7]) (by kernel_rfl) (by simp) ?_
          refine AllReadyH.cons rfl (fun K hK => ?_) AllReadyH.nil
          go_simp
          refine (HK1.out _ R.B).mono ?_
          rintro e w6 ⟨rfl, bq⟩
          replace R := R.call bq; replace P4 := P4.call bq; replace P5 := P5.call bq
          refine hK.out _ _ R.S (fun hHeld2 => ?_)
          clear bq; clear hK K hHeld; have hHeld := hHeld2; clear hHeld2
          try simp only [Act.put, List.getElem_toArray, List.getElem_cons_zero, List.getElem_cons_succ, List.setIfInBounds_toArray, List.set_cons_zero, List.set_cons_succ]
          have k0 := P4.cell; have f0 := P4.frozen
          refine wpAnyH_ready (rs := [10]) (by kernel_rfl) (by simp) (AllReadyH.cons rfl (fun K hK => ?_) AllReadyH.nil)
          try simp only [Act.put, List.getElem_toArray, List.getElem_cons_zero, List.getElem_cons_succ, List.setIfInBounds_toArray, List.set_cons_zero, List.set_cons_succ]
          go_simp
          replace R := R.set P4.ge (.int .u32 a2); replace P5 := P5.other (x := .int .u32 a2) NE.out; replace P4 := P4.same (.int .u32 a2)
          refine hK.out _ _ R.S (fun hHeld2 => ?_)
          clear hK K hHeld; have hHeld := hHeld2; clear hHeld2
          try simp only [Act.put, List.getElem_toArray, List.getElem_cons_zero, List.getElem_cons_succ, List.setIfInBounds_toArray, List.set_cons_zero, List.set_cons_succ]
          clear k0 f0
          generalize w6.setCell ⟨w3.heap.size, 0, none⟩ (.int .u32 a2) = w7 at *
          have k0 := P5.cell; have f0 := P5.frozen
          refine wpAnyH_ready (rs := [11]) (by kernel_rfl) (by simp) (AllReadyH.cons rfl (fun K hK => ?_) AllReadyH.nil)
          try simp only [Act.put, List.getElem_toArray, List.getElem_cons_zero, List.getElem_cons_succ, List.setIfInBounds_toArray, List.set_cons_zero, List.set_cons_succ]
          go_simp
          replace R := R.set P5.ge (.int .u32 x); replace P4 := P4.other (x := .int .u32 x) (Ne.symm NE.out); replace P5 := P5.same (.int .u32 x)
          refine hK.out _ _ R.S (fun hHeld2 => ?_)
          clear hK K hHeld; have hHeld := hHeld2; clear hHeld2
          try simp only [Act.put, List.getElem_toArray, List.getElem_cons_zero, List.getElem_cons_succ, List.setIfInBounds_toArray, List.set_cons_zero, List.set_cons_succ]
          clear k0 f0
          generalize w7.setCell ⟨w4.heap.size, 0, none⟩ (.int .u32 x) = w8 at *
          exact wpAnyH_done (by kernel_rfl) (NoPanic.normal ⟨rfl, (w3.heap.size, w4.heap.size, j), rfl, R.B, R.D, P4.hp, P5.hp⟩) _
        refine AllReadyH.cons rfl (fun K hK => ?_) AllReadyH.nil
        go_simp
        have P5 := R.new; replace R := R.alloc (.cells #[.int .u32 0] 98)
        refine hK.out _ _ R.S (fun hHeld2 => ?_)
        clear hK K hHeld; have hHeld := hHeld2; clear hHeld2
        try simp only [Act.put, List.getElem_toArray, List.getElem_cons_zero, List.getElem_cons_succ, List.setIfInBounds_toArray, List.set_cons_zero, List.set_cons_succ]
        generalize w3.alloc (.cells #[.int .u32 0] 98) = w4 at *
        refine wpAnyH_ready (rs := [7, 8]) (by kernel_rfl) (by simp) ?_
        refine AllReadyH.cons rfl (fun K hK => ?_) ?_
        · go_simp
          refine (HK1.out _ R.B).mono ?_
          rintro e w5 ⟨rfl, bq⟩
          replace R := R.call bq; replace P5 := P5.call bq
          refine hK.out _ _ R.S (fun hHeld2 => ?_)
          clear bq; clear hK K hHeld; have hHeld := hHeld2; clear hHeld2
          try simp only [Act.put, List.getElem_toArray, List.getElem_cons_zero, List.getElem_cons_succ, List.setIfInBounds_toArray, List.set_cons_zero, List.set_cons_succ]
          refine wpAnyH_ready (rs := [8]) (by kernel_rfl) (by simp) ?_
          refine AllReadyH.cons rfl (fun K hK => ?_) AllReadyH.nil
          go_simp
          have NE : Hid (w3.heap.size ≠ w5.heap.size) := P5.ne
          have P4 := R.new; replace P5 := P5.old (.cells #[.int .u32 0] 98); replace R := R.alloc (.cells #[.int .u32 0] 98)
          refine hK.out _ _ R.S (fun hHeld2 => ?_)
          clear hK K hHeld; have hHeld := hHeld2; clear hHeld2
          try simp only [Act.put, List.getElem_toArray, List.getElem_cons_zero, List.getElem_cons_succ, List.setIfInBounds_toArray, List.set_cons_zero, List.set_cons_succ]
          generalize w5.alloc (.cells #[.int .u32 0] 98) = w6 at *
          have k0 := P4.cell; have f0 := P4.frozen
          refine wpAnyH_ready (rs := [10]) (by kernel_rfl) (by simp) (AllReadyH.cons rfl (fun K hK => ?_) AllReadyH.nil)
          try simp only [Act.put, List.getElem_toArray, List.getElem_cons_zero, List.getElem_cons_succ, List.setIfInBounds_toArray, List.set_cons_zero, List.set_cons_succ]
          go_simp
          replace R := R.set P4.ge (.int .u32 a2); replace P5 := P5.other (x := .int .u32 a2) NE.out; replace P4 := P4.same (.int .u32 a2)
          refine hK.out _ _ R.S (fun hHeld2 => ?_)
          clear hK K hHeld; have hHeld := hHeld2; clear hHeld2
          try simp only [Act.put, List.getElem_toArray, List.getElem_cons_zero, List.getElem_cons_succ, List.setIfInBounds_toArray, List.set_cons_zero, List.set_cons_succ]
          clear k0 f0
          generalize w6.setCell ⟨w5.heap.size, 0, none⟩ (.int .u32 a2) = w7 at *
          have k0 := P5.cell; have f0 := P5.frozen
          refine wpAnyH_ready (rs := [11]) (by kernel_rfl) (by simp) (AllReadyH.cons rfl (fun K hK => ?_) AllReadyH.nil)
          try simp only [Act.put, List.getElem_toArray, List.getElem_cons_zero, List.getElem_cons_succ, List.setIfInBounds_toArray, List.set_cons_zero, List.set_cons_succ]
          go_simp
          replace R := R.set P5.ge (.int .u32 x); replace P4 := P4.other (x := .int .u32 x) (Ne.symm NE.out); replace P5 := P5.same (.int .u32 x)
          refine hK.out _ _ R.S (fun hHeld2 => ?_)
          clear hK K hHeld; have hHeld := hHeld2; clear hHeld2
          try simp only [Act.put, List.getElem_toArray, List.getElem_cons_zero, List.getElem_cons_succ, List.setIfInBounds_toArray, List.set_cons_zero, List.set_cons_succ]
          clear k0 f0
          generalize w7.setCell ⟨w3.heap.size, 0, none⟩ (.int .u32 x) = w8 at *
          exact wpAnyH_done (by kernel_rfl) (NoPanic.normal ⟨rfl, (w5.heap.size, w3.heap.size, j), rfl, R.B, R.D, P4.hp, P5.hp⟩) _
        refine AllReadyH.cons rfl (fun K hK => ?_) AllReadyH.nil
        go_simp
        have NE : Hid (w3.heap.size ≠ w4.heap.size) := P5.ne
        have P4 := R.new; replace P5 := P5.old (.cells #[.int .u32 0] 98); replace R := R.alloc (.cells #[.int .u32 0] 98)
        refine hK.out _ _ R.S (fun hHeld2 => ?_)
        clear hK K hHeld; have hHeld := hHeld2; clear hHeld2
        try simp only [Act.put, List.getElem_toArray, List.getElem_cons_zero, List.getElem_cons_succ, List.setIfInBounds_toArray, List.set_cons_zero, List.set_cons_succ]
        generalize w4.alloc (.cells #[.int .u32 0] 98) = w5 at *
        refine wpAnyH_ready (rs := [7]) (by kernel_rfl) (by simp) ?_
        refine AllReadyH.cons rfl (fun K hK => ?_) AllReadyH.nil
        go_simp
        refine (HK1.out _ R.B).mono ?_
        rintro e w6 ⟨rfl, bq⟩
        replace R := R.call bq; replace P4 := P4.call bq; replace P5 := P5.call bq
        refine hK.out _ _ R.S (fun hHeld2 => ?_)
        clear bq; clear hK K hHeld; have hHeld := hHeld2; clear hHeld2
        try simp only [Act.put, List.getElem_toArray, List.getElem_cons_zero, List.getElem_cons_succ, List.setIfInBounds_toArray, List.set_cons_zero, List.set_cons_succ]
        have k0 := P4.cell; have f0 := P4.frozen
        refine wpAnyH_ready (rs := [10]) (by kernel_rfl) (by simp) (AllReadyH.cons rfl (fun K hK => ?_) AllReadyH.nil)
        try simp only [Act.put, List.getElem_toArray, List.getElem_cons_zero, List.getElem_cons_succ, List.setIfInBounds_toArray, List.set_cons_zero, List.set_cons_succ]
        go_simp
        replace R := R.set P4.ge (.int .u32 a2); replace P5 := P5.other (x := .int .u32 a2) NE.out; replace P4 := P4.same (.int .u32 a2)
        refine hK.out _ _ R.S (fun hHeld2 => ?_)
        clear hK K hHeld; have hHeld := hHeld2; clear hHeld2
        try simp only [Act.put, List.getElem_toArray, List.getElem_cons_zero, List.getElem_cons_succ, List.setIfInBounds_toArray, List.set_cons_zero, List.set_cons_succ]
        clear k0 f0
        generalize w6.setCell ⟨w4.heap.size, 0, none⟩ (.int .u32 a2) = w7 at *
        have k0 := P5.cell; have f0 := P5.frozen
        refine wpAnyH_ready (rs := [11]) (by kernel_rfl) (by simp) (AllReadyH.cons rfl (fun K hK => ?_) AllReadyH.nil)
        try simp only [Act.put, List.getElem_toArray, List.getElem_cons_zero, List.getElem_cons_succ, List.setIfInBounds_toArray, List.set_cons_zero, List.set_cons_succ]
        go_simp
        replace R := R.set P5.ge (.int .u32 x); replace P4 := P4.other (x := .int .u32 x) (Ne.symm NE.out); replace P5 := P5.same (.int .u32 x)
        refine hK.out _ _ R.S (fun hHeld2 => ?_)
        clear hK K hHeld; have hHeld := hHeld2; clear hHeld2
        try simp only [Act.put, List.getElem_toArray, List.getElem_cons_zero, List.getElem_cons_succ, List.setIfInBounds_toArray, List.set_cons_zero, List.set_cons_succ]
        clear k0 f0
        generalize w7.setCell ⟨w3.heap.size, 0, none⟩ (.int .u32 x) = w8 at *
        exact wpAnyH_done (by kernel_rfl) (NoPanic.normal ⟨rfl, (w4.heap.size, w3.heap.size, j), rfl, R.B, R.D, P4.hp, P5.hp⟩) _
      refine AllReadyH.cons rfl (fun K hK => ?_) ?_
      · go_simp
        have P4 := R.new; replace R := R.alloc (.cells #[.int .u32 0] 98)
        refine hK.out _ _ R.S (fun hHeld2 => ?_)
        clear hK K hHeld; have hHeld := hHeld2; clear hHeld2
        try simp only [Act.put, List.getElem_toArray, List.getElem_cons_zero, List.getElem_cons_succ, List.setIfInBounds_toArray, List.set_cons_zero, List.set_cons_succ]
        generalize w2.alloc (.cells #[.int .u32 0] 98) = w3 at *
        refine wpAnyH_ready (rs := [4, 9]) (by kernel_rfl) (by simp) ?_
        refine AllReadyH.cons rfl (fun K hK => ?_) ?_
        · go_simp
          refine (HK2.out _ j hj R.B).mono ?_
          rintro e w4 ⟨rfl, bq⟩
          replace R := R.call bq; replace P4 := P4.call bq
          refine hK.out _ _ R.S (fun hHeld2 => ?_)
          clear bq; clear hK K hHeld; have hHeld := hHeld2; clear hHeld2
          try simp only [Act.put, List.getElem_toArray, List.getElem_cons_zero, List.getElem_cons_succ, List.setIfInBounds_toArray, List.set_cons_zero, List.set_cons_succ]
          refine wpAnyH_ready (rs := [7, 9]) (by kernel_rfl) (by simp) ?_
          refine AllReadyH.cons rfl (fun K hK => ?_) ?_
          · go_simp
            refine (HK1.out _ R.B).mono ?_
            rintro e w5 ⟨rfl, bq⟩
            replace R := R.call bq; replace P4 := P4.call bq
            refine hK.out _ _ R.S (fun hHeld2 => ?_)
            clear bq; clear hK K hHeld; have hHeld := hHeld2; clear hHeld2
            try simp only [Act.put, List.getElem_toArray, List.getElem_cons_zero, List.getElem_cons_succ, List.setIfInBounds_toArray, List.set_cons_zero, List.set_cons_succ]
            refine wpAnyH_ready (rs := [9]) (by kernel_rfl) (by simp) ?_
            refine AllReadyH.cons rfl (fun K hK => ?_) AllReadyH.nil
            go_simp
            have NE : Hid (w5.heap.size ≠ w2.heap.size) := Ne.symm P4.ne
            have P5 := R.new; replace P4 := P4.old (.cells #[.int .u32 0] 98); replace R := R.alloc (.cells #[.int .u32 0] 98)
            refine hK.out _ _ R.S (fun hHeld2 => ?_)
            clear hK K hHeld; have hHeld := hHeld2; clear hHeld2
            try simp only [Act.put, List.getElem_toArray, List.getElem_cons_zero, List.getElem_cons_succ, List.setIfInBounds_toArray, List.set_cons_zero, List.set_cons_succ]
            generalize w5.alloc (.cells #[.int .u32 0] 98) = w6 at *
            have k0 := P4.cell; have f0 := P4.frozen
            refine wpAnyH_ready (rs := [10]) (by kernel_rfl) (by simp) (AllReadyH.cons rfl (fun K hK => ?_) AllReadyH.nil)
            try simp only [Act.put, List.getElem_toArray, List.getElem_cons_zero, List.getElem_cons_succ, List.setIfInBounds_toArray, List.set_cons_zero, List.set_cons_succ]
            go_simp
            replace R := R.set P4.ge (.int .u32 a2); replace P5 := P5.other (x := .int .u32 a2) NE.out; replace P4 := P4.same (.int .u32 a2)
            refine hK.out _ _ R.S (fun hHeld2 => ?_)
            clear hK K hHeld; have hHeld := hHeld2; clear hHeld2
            try simp only [Act.put, List.getElem_toArray, List.getElem_cons_zero, List.getElem_cons_succ, List.setIfInBounds_toArray, List.set_cons_zero, List.set_cons_succ]
            clear k0 f0
            generalize w6.setCell ⟨w2.heap.size, 0, none⟩ (.int .u32 a2) = w7 at *
            have k0 := P5.cell; have f0 := P5.frozen
            refine wpAnyH_ready (rs := [11]) (by kernel_rfl) (by simp) (AllReadyH.cons rfl (fun K hK => ?_) AllReadyH.nil)
            try simp only [Act.put, List.getElem_toArray, List.getElem_cons_zero, List.getElem_cons_succ, List.setIfInBounds_toArray, List.set_cons_zero, List.set_cons_succ]
            go_simp
            replace R := R.set P5.ge (.int .u32 x); replace P4 := P4.other (x := .int .u32 x) (Ne.symm NE.out); replace P5 := P5.same (.int .u32 x)
            refine hK.out _ _ R.S (fun hHeld2 => ?_)
            clear hK K hHeld; have hHeld := hHeld2; clear hHeld2
            try simp only [Act.put, List.getElem_toArray, List.getElem_cons_zero, List.getElem_cons_succ, List.setIfInBounds_toArray, List.set_cons_zero, List.set_cons_succ]
            clear k0 f0
            generalize w7.setCell ⟨w5.heap.size, 0, none⟩ (.int .u32 x) = w8 at *
            exact wpAnyH_done (by kernel_rfl) (NoPanic.normal ⟨rfl, (w2.heap.size, w5.heap.size, j), rfl, R.B, R.D, P4.hp, P5.hp⟩) _
          refine AllReadyH.cons rfl (fun K hK => ?_) AllReadyH.nil
          go_simp
          have NE : Hid (w4.heap.size ≠ w2.heap.size) := Ne.symm P4.ne
          have P5 := R.new; replace P4 := P4.old (.cells #[.int .u32 0] 98); replace R := R.alloc (.cells #[.int .u32 0] 98)
          refine hK.out _ _ R.S (fun hHeld2 => ?_)
          clear hK K hHeld; have hHeld := hHeld2; clear hHeld2
          try simp only [Act.put, List.getElem_toArray, List.getElem_cons_zero, List.getElem_cons_succ, List.setIfInBounds_toArray, List.set_cons_zero, List.set_cons_succ]
          generalize w4.alloc (.cells #[.int .u32 0] 98) = w5 at *
          refine wpAnyH_ready (rs := [7]) (by kernel_rfl) (by simp) ?_
          refine AllReadyH.cons rfl (fun K hK => ?_) AllReadyH.nil
          go_simp
          refine (HK1.out _ R.B).mono ?_
          rintro e w6 ⟨rfl, bq⟩
          replace R := R.call bq; replace P4 := P4.call bq; replace P5 := P5.call bq
          refine hK.out _ _ R.S (fun hHeld2 => ?_)
          clear bq; clear hK K hHeld; have hHeld := hHeld2; clear hHeld2
          try simp only [Act.put, List.getElem_toArray, List.getElem_cons_zero, List.getElem_cons_succ, List.setIfInBounds_toArray, List.set_cons_zero, List.set_cons_succ]
          have k0 := P4.cell; have f0 := P4.frozen
          refine wpAnyH_ready (rs := [10]) (by kernel_rfl) (by simp) (AllReadyH.cons rfl (fun K hK => ?_) AllReadyH.nil)
          try simp only [Act.put, List.getElem_toArray, List.getElem_cons_zero, List.getElem_cons_succ, List.setIfInBounds_toArray, List.set_cons_zero, List.set_cons_succ]
          go_simp
          replace R := R.set P4.ge (.int .u32 a2); replace P5 := P5.other (x := .int .u32 a2) NE.out; replace P4 := P4.same (.int .u32 a2)
          refine hK.out _ _ R.S (fun hHeld2 => ?_)
          clear hK K hHeld; have hHeld := hHeld2; clear hHeld2
          try simp only [Act.put, List.getElem_toArray, List.getElem_cons_zero, List.getElem_cons_succ, List.setIfInBounds_toArray, List.set_cons_zero, List.set_cons_succ]
          clear k0 f0
          generalize w6.setCell ⟨w2.heap.size, 0, none⟩ (.int .u32 a2) = w7 at *
          have k0 := P5.cell; have f0 := P5.frozen
          refine wpAnyH_ready (rs := [11]) (by kernel_rfl) (by simp) (AllReadyH.cons rfl (fun K hK => ?_) AllReadyH.nil)
          try simp only [Act.put, List.getElem_toArray, List.getElem_cons_zero, List.getElem_cons_succ, List.setIfInBounds_toArray, List.set_cons_zero, List.set_cons_succ]
          go_simp
          replace R := R.set P5.ge (.int .u32 x); replace P4 := P4.other (x := .int .u32 x) (Ne.symm NE.out); replace P5 := P5.same (.int .u32 x)
          refine hK.out _ _ R.S (fun hHeld2 => ?_)
          clear hK K hHeld; have hHeld := hHeld2; clear hHeld2
          try simp only [Act.put, List.getElem_toArray, List.getElem_cons_zero, List.getElem_cons_succ, List.setIfInBounds_toArray, List.set_cons_zero, List.set_cons_succ]
          clear k0 f0
          generalize w7.setCell ⟨w4.heap.size, 0, none⟩ (.int .u32 x) = w8 at *
          exact wpAnyH_done (by kernel_rfl) (NoPanic.normal ⟨rfl, (w2.heap.size, w4.heap.size, j), rfl, R.B, R.D, P4.hp, P5.hp⟩) _
        refine AllReadyH.cons rfl (fun K hK => ?_) AllReadyH.nil
        go_simp
        have NE : Hid (w3.heap.size ≠ w2.heap.size) := Ne.symm P4.ne
        have P5 := R.new; replace P4 := P4.old (.cells #[.int .u32 0] 98); replace R := R.alloc (.cells #[.int .u32 0] 98)
        refine hK.out _ _ R.S (fun hHeld2 => ?_)
        clear hK K hHeld; have hHeld := hHeld2; clear hHeld2
        try simp only [Act.put, List.getElem_toArray, List.getElem_cons_zero, List.getElem_cons_succ, List.setIfInBounds_toArray, List.set_cons_zero, List.set_cons_succ]
        generalize w3.alloc (.cells #[.int .u32 0] 98) = w4 at *
        refine wpAnyH_ready (rs := [4]) (by kernel_rfl) (by simp) ?_
        refine AllReadyH.cons rfl (fun K hK => ?_) AllReadyH.nil
        go_simp
        refine (HK2.out _ j hj R.B).mono ?_
        rintro e w5 ⟨rfl, bq⟩
        replace R := R.call bq; replace P4 := P4.call bq; replace P5 := P5.call bq
        refine hK.out _ _ R.S (fun hHeld2 => ?_)
        clear bq; clear hK K hHeld; have hHeld := hHeld2; clear hHeld2
        try simp only [Act.put, List.getElem_toArray, List.getElem_cons_zero, List.getElem_cons_succ, List.setIfInBounds_toArray, List.set_cons_zero, List.set_cons_succ]
        refine wpAnyH_ready (rs := [7]) (by kernel_rfl) (by simp) ?_
        refine AllReadyH.cons rfl (fun K hK => ?_) AllReadyH.nil
        go_simp
        refine (HK1.out _ R.B).mono ?_
        rintro e w6 ⟨rfl, bq⟩
        replace R := R.call bq; replace P4 := P4.call bq; replace P5 := P5.call bq
        refine hK.out _ _ R.S (fun hHeld2 => ?_)
        clear bq; clear hK K hHeld; have hHeld := hHeld2; clear hHeld2
        try simp only [Act.put, List.getElem_toArray, List.getElem_cons_zero, List.getElem_cons_succ, List.setIfInBounds_toArray, List.set_cons_zero, List.set_cons_succ]
        have k0 := P4.cell; have f0 := P4.frozen
        refine wpAnyH_ready (rs := [10]) (by kernel_rfl) (by simp) (AllReadyH.cons rfl (fun K hK => ?_) AllReadyH.nil)
        try simp only [Act.put, List.getElem_toArray, List.getElem_cons_zero, List.getElem_cons_succ, List.setIfInBounds_toArray, List.set_cons_zero, List.set_cons_succ]
        go_simp
        replace R := R.set P4.ge (.int .u32 a2); replace P5 := P5.other (x := .int .u32 a2) NE.out; replace P4 := P4.same (.int .u32 a2)
        refine hK.out _ _ R.S (fun hHeld2 => ?_)
        clear hK K hHeld; have hHeld := hHeld2; clear hHeld2
        try simp only [Act.put, List.getElem_toArray, List.getElem_cons_zero, List.getElem_cons_succ, List.setIfInBounds_toArray, List.set_cons_zero, List.set_cons_succ]
        clear k0 f0
        generalize w6.setCell ⟨w2.heap.size, 0, none⟩ (.int .u32 a2) = w7 at *
        have k0 := P5.cell; have f0 := P5.frozen
        refine wpAnyH_ready (rs := [11]) (by kernel_rfl) (by simp) (AllReadyH.cons rfl (fun K hK => ?_) AllReadyH.nil)
        try simp only [Act.put, List.getElem_toArray, List.getElem_cons_zero, List.getElem_cons_succ, List.setIfInBounds_toArray, List.set_cons_zero, List.set_cons_succ]
        go_simp
        replace R := R.set P5.ge (.int .u32 x); replace P4 := P4.other (x := .int .u32 x) (Ne.symm NE.out); replace P5 := P5.same (.int .u32 x)
        refine hK.out _ _ R.S (fun hHeld2 => ?_)
        clear hK K hHeld; have hHeld := hHeld2; clear hHeld2
        try simp only [Act.put, List.getElem_toArray, List.getElem_cons_zero, List.getElem_cons_succ, List.setIfInBounds_toArray, List.set_cons_zero, List.set_cons_succ]
        clear k0 f0
        generalize w7.setCell ⟨w3.heap.size, 0, none⟩ (.int .u32 x) = w8 at *
        exact wpAnyH_done (by kernel_rfl) (NoPanic.normal ⟨rfl, (w2.heap.size, w3.heap.size, j), rfl, R.B, R.D, P4.hp, P5.hp⟩) _
      refine AllReadyH.cons rfl (fun K hK => ?_) AllReadyH.nil
      go_simp
      have P5 := R.new; replace R := R.alloc (.cells #[.int .u32 0] 98)
      refine hK.out _ _ R.S (fun hHeld2 => ?_)
      clear hK K hHeld; have hHeld := hHeld2; clear hHeld2
      try simp only [Act.put, List.getElem_toArray, List.getElem_cons_zero, List.getElem_cons_succ, List.setIfInBounds_toArray, List.set_cons_zero, List.set_cons_succ]
      generalize w2.alloc (.cells #[.int .u32 0] 98) = w3 at *
      refine wpAnyH_ready (rs := [4, 8]) (by kernel_rfl) (by simp) ?_
      refine AllReadyH.cons rfl (fun K hK => ?_) ?_
      · go_simp
        refine (HK2.out _ j hj R.B).mono ?_
        rintro e w4 ⟨rfl, bq⟩
        replace R := R.call bq; replace P5 := P5.call bq
        refine hK.out _ _ R.S (fun hHeld2 => ?_)
        clear bq; clear hK K hHeld; have hHeld := hHeld2; clear hHeld2
        try simp only [Act.put, List.getElem_toArray, List.getElem_cons_zero, List.getElem_cons_succ, List.setIfInBounds_toArray, List.set_cons_zero, List.set_cons_succ]
        refine wpAnyH_ready (rs := [7, 8]) (by kernel_rfl) (by simp) ?_
        refine AllReadyH.cons rfl (fun K hK => ?_) ?_
        · go_simp
          refine (HK1.out _ R.B).mono ?_
          rintro e w5 ⟨rfl, bq⟩
          replace R := R.call bq; replace P5 := P5.call bq
          refine hK.out _ _ R.S (fun hHeld2 => ?_)
          clear bq; clear hK K hHeld; have hHeld := hHeld2; clear hHeld2
          try simp only [Act.put, List.getElem_toArray, List.getElem_cons_zero, List.getElem_cons_succ, List.setIfInBounds_toArray, List.set_cons_zero, List.set_cons_succ]
          refine wpAnyH_ready (rs := [8]) (by kernel_rfl) (by simp) ?_
          refine AllReadyH.cons rfl (fun K hK => ?_) AllReadyH.nil
          go_simp
          have NE : Hid (w2.heap.size ≠ w5.heap.size) := P5.ne
          have P4 := R.new; replace P5 := P5.old (.cells #[.int .u32 0] 98); replace R := R.alloc (.cells #[.int .u32 0] 98)
          refine hK.out _ _ R.S (fun hHeld2 => ?_)
          clear hK K hHeld; have hHeld := hHeld2; clear hHeld2
          try simp only [Act.put, List.getElem_toArray, List.getElem_cons_zero, List.getElem_cons_succ, List.setIfInBounds_toArray, List.set_cons_zero, List.set_cons_succ]
          generalize w5.alloc (.cells #[.int .u32 0] 98) = w6 at *
          have k0 := P4.cell; have f0 := P4.frozen
          refine wpAnyH_ready (rs := [10]) (by kernel_rfl) (by simp) (AllReadyH.cons rfl (fun K hK => ?_) AllReadyH.nil)
          try simp only [Act.put, List.getElem_toArray, List.getElem_cons_zero, List.getElem_cons_succ, List.setIfInBounds_toArray, List.set_cons_zero, List.set_cons_succ]
          go_simp
          replace R := R.set P4.ge (.int .u32 a2); replace P5 := P5.other (x := .int .u32 a2) NE.out; replace P4 := P4.same (.int .u32 a2)
          refine hK.out _ _ R.S (fun hHeld2 => ?_)
          clear hK K hHeld; have hHeld := hHeld2; clear hHeld2
          try simp only [Act.put, List.getElem_toArray, List.getElem_cons_zero, List.getElem_cons_succ, List.setIfInBounds_toArray, List.set_cons_zero, List.set_cons_succ]
          clear k0 f0
          generalize w6.setCell ⟨w5.heap.size, 0, none⟩ (.int .u32 a2) = w7 at *
          have k0 := P5.cell; have f0 := P5.frozen
          refine wpAnyH_ready (rs := [11]) (by kernel_rfl) (by simp) (AllReadyH.cons rfl (fun K hK => ?_) AllReadyH.nil)
          try simp only [Act.put, List.getElem_toArray, List.getElem_cons_zero, List.getElem_cons_succ, List.setIfInBounds_toArray, List.set_cons_zero, List.set_cons_succ]
          go_simp
          replace R := R.set P5.ge (.int .u32 x); replace P4 := P4.other (x := .int .u32 x) (Ne.symm NE.out); replace P5 := P5.same (.int .u32 x)
          refine hK.out _ _ R.S (fun hHeld2 => ?_)
          clear hK K hHeld; have hHeld := hHeld2; clear hHeld2
          try simp only [Act.put, List.getElem_toArray, List.getElem_cons_zero, List.getElem_cons_succ, List.setIfInBounds_toArray, List.set_cons_zero, List.set_cons_succ]
          clear k0 f0
          generalize w7.setCell ⟨w2.heap.size, 0, none⟩ (.int .u32 x) = w8 at *
          exact wpAnyH_done (by kernel_rfl) (NoPanic.normal ⟨rfl, (w5.heap.size, w2.heap.size, j), rfl, R.B, R.D, P4.hp, P5.hp⟩) _
        refine AllReadyH.cons rfl (fun K hK => ?_) AllReadyH.nil
        go_simp
        have NE : Hid (w2.heap.size ≠ w4.heap.size) := P5.ne
        have P4 := R.new; replace P5 := P5.old (.cells #[.int .u32 0] 98); replace R := R.alloc (.cells #[.int .u32 0] 98)
        refine hK.out _ _ R.S (fun hHeld2 => ?_)
        clear hK K hHeld; have hHeld := hHeld2; clear hHeld2
        try simp only [Act.put, List.getElem_toArray, List.getElem_cons_zero, List.getElem_cons_succ, List.setIfInBounds_toArray, List.set_cons_zero, List.set_cons_succ]
        generalize w4.alloc (.cells #[.int .u32 0] 98) = w5 at *
        refine wpAnyH_ready (rs := [7]) (by kernel_rfl) (by simp) ?_
        refine AllReadyH.cons rfl (fun K hK => ?_) AllReadyH.nil
        go_simp
        refine (HK1.out _ R.B).mono ?_
        rintro e w6 ⟨rfl, bq⟩
        replace R := R.call bq; replace P4 := P4.call bq; replace P5 := P5.call bq
        refine hK.out _ _ R.S (fun hHeld2 => ?_)
        clear bq; clear hK K hHeld; have hHeld := hHeld2; clear hHeld2
        try simp only [Act.put, List.getElem_toArray, List.getElem_cons_zero, List.getElem_cons_succ, List.setIfInBounds_toArray, List.set_cons_zero, List.set_cons_succ]
        have k0 := P4.cell; have f0 := P4.frozen
        refine wpAnyH_ready (rs := [10]) (by kernel_rfl) (by simp) (AllReadyH.cons rfl (fun K hK => ?_) AllReadyH.nil)
        try simp only [Act.put, List.getElem_toArray, List.getElem_cons_zero, List.getElem_cons_succ, List.setIfInBounds_toArray, List.set_cons_zero, List.set_cons_succ]
        go_simp
        replace R := R.set P4.ge (.int .u32 a2); replace P5 := P5.other (x := .int .u32 a2) NE.out; replace P4 := P4.same (.int .u32 a2)
        refine hK.out _ _ R.S (fun hHeld2 => ?_)
        clear hK K hHeld; have hHeld := hHeld2; clear hHeld2
        try simp only [Act.put, List.getElem_toArray, List.getElem_cons_zero, List.getElem_cons_succ, List.setIfInBounds_toArray, List.set_cons_zero, List.set_cons_succ]
        clear k0 f0
        generalize w6.setCell ⟨w4.heap.size, 0, none⟩ (.int .u32 a2) = w7 at *
        have k0 := P5.cell; have f0 := P5.frozen
        refine wpAnyH_ready (rs := [11]) (by kernel_rfl) (by simp) (AllReadyH.cons rfl (fun K hK => ?_) AllReadyH.nil)
        try simp only [Act.put, List.getElem_toArray, List.getElem_cons_zero, List.getElem_cons_succ, List.setIfInBounds_toArray, List.set_cons_zero, List.set_cons_succ]
        go_simp
        replace R := R.set P5.ge (.int .u32 x); replace P4 := P4.other (x := .int .u32 x) (Ne.symm NE.out); replace P5 := P5.same (.int .u32 x)
        refine hK.out _ _ R.S (fun hHeld2 => ?_)
        clear hK K hHeld; have hHeld := hHeld2; clear hHeld2
        try simp only [Act.put, List.getElem_toArray, List.getElem_cons_zero, List.getElem_cons_succ, List.setIfInBounds_toArray, List.set_cons_zero, List.set_cons_succ]
        clear k0 f0
        generalize w7.setCell ⟨w2.heap.size, 0, none⟩ (.int .u32 x) = w8 at *
        exact wpAnyH_done (by kernel_rfl) (NoPanic.normal ⟨rfl, (w4.heap.size, w2.heap.size, j), rfl, R.B, R.D, P4.hp, P5.hp⟩) _
      refine AllReadyH.cons rfl (fun K hK => ?_) AllReadyH.nil
      go_simp
      have NE : Hid (w2.heap.size ≠ w3.heap.size) := P5.ne
      have P4 := R.new; replace P5 := P5.old (.cells #[.int .u32 0] 98); replace R := R.alloc (.cells #[.int .u32 0] 98)
      refine hK.out _ _ R.S (fun hHeld2 => ?_)
      clear hK K hHeld; have hHeld := hHeld2; clear hHeld2
      try simp only [Act.put, List.getElem_toArray, List.getElem_cons_zero, List.getElem_cons_succ, List.setIfInBounds_toArray, List.set_cons_zero, List.set_cons_succ]
      generalize w3.alloc (.cells #[.int .u32 0] 98) = w4 at *
      refine wpAnyH_ready (rs := [4]) (by kernel_rfl) (by simp) ?_
      refine AllReadyH.cons rfl (fun K hK => ?_) AllReadyH.nil
      go_simp
      refine (HK2.out _ j hj R.B).mono ?_
      rintro e w5 ⟨rfl, bq⟩
      replace R := R.call bq; replace P4 := P4.call bq; replace P5 := P5.call bq
      refine hK.out _ _ R.S (fun hHeld2 => ?_)
      clear bq; clear hK K hHeld; have hHeld := hHeld2; clear hHeld2
      try simp only [Act.put, List.getElem_toArray, List.getElem_cons_zero, List.getElem_cons_succ, List.setIfInBounds_toArray, List.set_cons_zero, List.set_cons_succ]
      refine wpAnyH_ready (rs := [7]) (by kernel_rfl) (by simp) ?_
      refine AllReadyH.cons rfl (fun K hK => ?_) AllReadyH.nil
      go_simp
      refine (HK1.out _ R.B).mono ?_
      rintro e w6 ⟨rfl, bq⟩
      replace R := R.call bq; replace P4 := P4.call bq; replace P5 := P5.call bq
      refine hK.out _ _ R.S (fun hHeld2 => ?_)
      clear bq; clear hK K hHeld; have hHeld := hHeld2; clear hHeld2
      try simp only [Act.put, List.getElem_toArray, List.getElem_cons_zero, List.getElem_cons_succ, List.setIfInBounds_toArray, List.set_cons_zero, List.set_cons_succ]
      have k0 := P4.cell; have f0 := P4.frozen
      refine wpAnyH_ready (rs := [10]) (by kernel_rfl) (by simp) (AllReadyH.cons rfl (fun K hK => ?_) AllReadyH.nil)
      try simp only [Act.put, List.getElem_toArray, List.getElem_cons_zero, List.getElem_cons_succ, List.setIfInBounds_toArray, List.set_cons_zero, List.set_cons_succ]
      go_simp
      replace R := R.set P4.ge (.int .u32 a2); replace P5 := P5.other (x := .int .u32 a2) NE.out; replace P4 := P4.same (.int .u32 a2)
      refine hK.out _ _ R.S (fun hHeld2 => ?_)
      clear hK K hHeld; have hHeld := hHeld2; clear hHeld2
      try simp only [Act.put, List.getElem_toArray, List.getElem_cons_zero, List.getElem_cons_succ, List.setIfInBounds_toArray, List.set_cons_zero, List.set_cons_succ]
      clear k0 f0
      generalize w6.setCell ⟨w3.heap.size, 0, none⟩ (.int .u32 a2) = w7 at *
      have k0 := P5.cell; have f0 := P5.frozen
      refine wpAnyH_ready (rs := [11]) (by kernel_rfl) (by simp) (AllReadyH.cons rfl (fun K hK => ?_) AllReadyH.nil)
      try simp only [Act.put, List.getElem_toArray, List.getElem_cons_zero, List.getElem_cons_succ, List.setIfInBounds_toArray, List.set_cons_zero, List.set_cons_succ]
      go_simp
      replace R := R.set P5.ge (.int .u32 x); replace P4 := P4.other (x := .int .u32 x) (Ne.symm NE.out); replace P5 := P5.same (.int .u32 x)
      refine hK.out _ _ R.S (fun hHeld2 => ?_)
      clear hK K hHeld; have hHeld := hHeld2; clear hHeld2
      try simp only [Act.put, List.getElem_toArray, List.getElem_cons_zero, List.getElem_cons_succ, List.setIfInBounds_toArray, List.set_cons_zero, List.set_cons_succ]
      clear k0 f0
      generalize w7.setCell ⟨w2.heap.size, 0, none⟩ (.int .u32 x) = w8 at *
      exact wpAnyH_done (by kernel_rfl) (NoPanic.normal ⟨rfl, (w3.heap.size, w2.heap.size, j), rfl, R.B, R.D, P4.hp, P5.hp⟩) _
    refine AllReadyH.cons rfl (fun K hK => ?_) ?_
    · go_simp
      have P4 := R.new; replace R := R.alloc (.cells #[.int .u32 0] 98)
      refine hK.out _ _ R.S (fun hHeld2 => ?_)
      clear hK K hHeld; have hHeld := hHeld2; clear hHeld2
      try simp only [Act.put, List.getElem_toArray, List.getElem_cons_zero, List.getElem_cons_succ, List.setIfInBounds_toArray, List.set_cons_zero, List.set_cons_succ]
      generalize w1.alloc (.cells #[.int .u32 0] 98) = w2 at *
      refine wpAnyH_ready (rs := [3, 9]) (by kernel_rfl) (by simp) ?_
      refine AllReadyH.cons rfl (fun K hK => ?_) ?_
      · go_simp
        refine (HA2.out _ R.B).mono ?_
        rintro e w3 ⟨j, rfl, hj, bq⟩
        replace R := R.call bq; replace P4 := P4.call bq
        refine hK.out _ _ R.S (fun hHeld2 => ?_)
        clear bq; clear hK K hHeld; have hHeld := hHeld2; clear hHeld2
        try simp only [Act.put, List.getElem_toArray, List.getElem_cons_zero, List.getElem_cons_succ, List.setIfInBounds_toArray, List.set_cons_zero, List.set_cons_succ]
        refine wpAnyH_ready (rs := [4, 9]) (by kernel_rfl) (by simp) ?_
        refine AllReadyH.cons rfl (fun K hK => ?_) ?_
        · go_simp
          refine (HK2.out _ j hj R.B).mono ?_
          rintro e w4 ⟨rfl, bq⟩
          replace R := R.call bq; replace P4 := P4.call bq
          refine hK.out _ _ R.S (fun hHeld2 => ?_)
          clear bq; clear hK K hHeld; have hHeld := hHeld2; clear hHeld2
          try simp only [Act.put, List.getElem_toArray, List.getElem_cons_zero, List.getElem_cons_succ, List.setIfInBounds_toArray, List.set_cons_zero, List.set_cons_succ]
          refine wpAnyH_ready (rs := [7, 9]) (by kernel_rfl) (by simp) ?_
          refine AllReadyH.cons rfl (fun K hK => ?_) ?_
          · go_simp
            refine (HK1.out _ R.B).mono ?_
            rintro e w5 ⟨rfl, bq⟩
            replace R := R.call bq; replace P4 := P4.call bq
            refine hK.out _ _ R.S (fun hHeld2 => ?_)
            clear bq; clear hK K hHeld; have hHeld := hHeld2; clear hHeld2
            try simp only [Act.put, List.getElem_toArray, List.getElem_cons_zero, List.getElem_cons_succ, List.setIfInBounds_toArray, List.set_cons_zero, List.set_cons_succ]
            refine wpAnyH_ready (rs := [9]) (by kernel_rfl) (by simp) ?_
            refine AllReadyH.cons rfl (fun K hK => ?_) AllReadyH.nil
            go_simp
            have NE : Hid (w5.heap.size ≠ w1.heap.size) := Ne.symm P4.ne
            have P5 := R.new; replace P4 := P4.old (.cells #[.int .u32 0] 98); replace R := R.alloc (.cells #[.int .u32 0] 98)
            refine hK.out _ _ R.S (fun hHeld2 => ?_)
            clear hK K hHeld; have hHeld := hHeld2; clear hHeld2
            try simp only [Act.put, List.getElem_toArray, List.getElem_cons_zero, List.getElem_cons_succ, List.setIfInBounds_toArray, List.set_cons_zero, List.set_cons_succ]
            generalize w5.alloc (.cells #[.int .u32 0] 98) = w6 at *
            have k0 := P4.cell; have f0 := P4.frozen
            refine wpAnyH_ready (rs := [10]) (by kernel_rfl) (by simp) (AllReadyH.cons rfl (fun K hK => ?_) AllReadyH.nil)
            try simp only [Act.put, List.getElem_toArray, List.getElem_cons_zero, List.getElem_cons_succ, List.setIfInBounds_toArray, List.set_cons_zero, List.set_cons_succ]
            go_simp
            replace R := R.set P4.ge (.int .u32 a2); replace P5 := P5.other (x := .int .u32 a2) NE.out; replace P4 := P4.same (.int .u32 a2)
            refine hK.out _ _ R.S (fun hHeld2 => ?_)
            clear hK K hHeld; have hHeld := hHeld2; clear hHeld2
            try simp only [Act.put, List.getElem_toArray, List.getElem_cons_zero, List.getElem_cons_succ, List.setIfInBounds_toArray, List.set_cons_zero, List.set_cons_succ]
            clear k0 f0
            generalize w6.setCell ⟨w1.heap.size, 0, none⟩ (.int .u32 a2) = w7 at *
            have k0 := P5.cell; have f0 := P5.frozen
            refine wpAnyH_ready (rs := [11]) (by kernel_rfl) (by simp) (AllReadyH.cons rfl (fun K hK => ?_) AllReadyH.nil)
            try simp only [Act.put, List.getElem_toArray, List.getElem_cons_zero, List.getElem_cons_succ, List.setIfInBounds_toArray, List.set_cons_zero, List.set_cons_succ]
            go_simp
            replace R := R.set P5.ge (.int .u32 x); replace P4 := P4.other (x := .int .u32 x) (Ne.symm NE.out); replace P5 := P5.same (.int .u32 x)
            refine hK.out _ _ R.S (fun hHeld2 => ?_)
            clear hK K hHeld; have hHeld := hHeld2; clear hHeld2
            try simp only [Act.put, List.getElem_toArray, List.getElem_cons_zero, List.getElem_cons_succ, List.setIfInBounds_toArray, List.set_cons_zero, List.set_cons_succ]
            clear k0 f0
            generalize w7.setCell ⟨w5.heap.size, 0, none⟩ (.int .u32 x) = w8 at *
            exact wpAnyH_done (by kernel_rfl) (NoPanic.normal ⟨rfl, (w1.heap.size, w5.heap.size, j), rfl, R.B, R.D, P4.hp, P5.hp⟩) _
          refine AllReadyH.cons rfl (fun K hK => ?_) AllReadyH.nil
          go_simp
          have NE : Hid (w4.heap.size ≠ w1.heap.size) := Ne.symm P4.ne
          have P5 := R.new; replace P4 := P4.old (.cells #[.int .u32 0] 98); replace R := R.alloc (.cells #[.int .u32 0] 98)
          refine hK.out _ _ R.S (fun hHeld2 => ?_)
          clear hK K hHeld; have hHeld := hHeld2; clear hHeld2
          try simp only [Act.put, List.getElem_toArray, List.getElem_cons_zero, List.getElem_cons_succ, List.setIfInBounds_toArray, List.set_cons_zero, List.set_cons_succ]
          generalize w4.alloc (.cells #[.int .u32 0] 98) = w5 at *
          refine wpAnyH_ready (rs := [7]) (by kernel_rfl) (by simp) ?_
          refine AllReadyH.cons rfl (fun K hK => ?_) AllReadyH.nil
          go_simp
          refine (HK1.out _ R.B).mono ?_
          rintro e w6 ⟨rfl, bq⟩
          replace R := R.call bq; replace P4 := P4.call bq; replace P5 := P5.call bq
          refine hK.out _ _ R.S (fun hHeld2 => ?_)
          clear bq; clear hK K hHeld; have hHeld := hHeld2; clear hHeld2
          try simp only [Act.put, List.getElem_toArray, List.getElem_cons_zero, List.getElem_cons_succ, List.setIfInBounds_toArray, List.set_cons_zero, List.set_cons_succ]
          have k0 := P4.cell; have f0 := P4.frozen
          refine wpAnyH_ready (rs := [10]) (by kernel_rfl) (by simp) (AllReadyH.cons rfl (fun K hK => ?_) AllReadyH.nil)
          try simp only [Act.put, List.getElem_toArray, List.getElem_cons_zero, List.getElem_cons_succ, List.setIfInBounds_toArray, List.set_cons_zero, List.set_cons_succ]
          go_simp
          replace R := R.set P4.ge (.int .u32 a2); replace P5 := P5.other (x := .int .u32 a2) NE.out; replace P4 := P4.same (.int .u32 a2)
          refine hK.out _ _ R.S (fun hHeld2 => ?_)
          clear hK K hHeld; have hHeld := hHeld2; clear hHeld2
          try simp only [Act.put, List.getElem_toArray, List.getElem_cons_zero, List.getElem_cons_succ, List.setIfInBounds_toArray, List.set_cons_zero, List.set_cons_succ]
          clear k0 f0
          generalize w6.setCell ⟨w1.heap.size, 0, none⟩ (.int .u32 a2) = w7 at *
          have k0 := P5.cell; have f0 := P5.frozen
          refine wpAnyH_ready (rs := [11]) (by kernel_rfl) (by simp) (AllReadyH.cons rfl (fun K hK => ?_) AllReadyH.nil)
          try simp only [Act.put, List.getElem_toArray, List.getElem_cons_zero, List.getElem_cons_succ, List.setIfInBounds_toArray, List.set_cons_zero, List.set_cons_succ]
          go_simp
          replace R := R.set P5.ge (.int .u32 x); replace P4 := P4.other (x := .int .u32 x) (Ne.symm NE.out); replace P5 := P5.same (.int .u32 x)
          refine hK.out _ _ R.S (fun hHeld2 => ?_)
          clear hK K hHeld; have hHeld := hHeld2; clear hHeld2
          try simp only [Act.put, List.getElem_toArray, List.getElem_cons_zero, List.getElem_cons_succ, List.setIfInBounds_toArray, List.set_cons_zero, List.set_cons_succ]
          clear k0 f0
          generalize w7.setCell ⟨w4.heap.size, 0, none⟩ (.int .u32 x) = w8 at *
          exact wpAnyH_done (by kernel_rfl) (NoPanic.normal ⟨rfl, (w1.heap.size, w4.heap.size, j), rfl, R.B, R.D, P4.hp, P5.hp⟩) _
        refine AllReadyH.cons rfl (fun K hK => ?_) AllReadyH.nil
        go_simp
        have NE : Hid (w3.heap.size ≠ w1.heap.size) := Ne.symm P4.ne
        have P5 := R.new; replace P4 := P4.old (.cells #[.int .u32 0] 98); replace R := R.alloc (.cells #[.int .u32 0] 98)
        refine hK.out _ _ R.S (fun hHeld2 => ?_)
        clear hK K hHeld; have hHeld := hHeld2; clear hHeld2
        try simp only [Act.put, List.getElem_toArray, List.getElem_cons_zero, List.getElem_cons_succ, List.setIfInBounds_toArray, List.set_cons_zero, List.set_cons_succ]
        generalize w3.alloc (.cells #[.int .u32 0] 98) = w4 at *
        refine wpAnyH_ready (rs := [4]) (by kernel_rfl) (by simp) ?_
        refine AllReadyH.cons rfl (fun K hK => ?_) AllReadyH.nil
        go_simp
        refine (HK2.out _ j hj R.B).mono ?_
        rintro e w5 ⟨rfl, bq⟩
        replace R := R.call bq; replace P4 := P4.call bq; replace P5 := P5.call bq
        refine hK.out _ _ R.S (fun hHeld2 => ?_)
        clear bq; clear hK K hHeld; have hHeld := hHeld2; clear hHeld2
        try simp only [Act.put, List.getElem_toArray, List.getElem_cons_zero, List.getElem_cons_succ, List.setIfInBounds_toArray, List.set_cons_zero, List.set_cons_succ]
        refine wpAnyH_ready (rs := [7]) (by kernel_rfl) (by simp) ?_
        refine AllReadyH.cons rfl (fun K hK => ?_) AllReadyH.nil
        go_simp
        refine (HK1.out _ R.B).mono ?_
        rintro e w6 ⟨rfl, bq⟩
        replace R := R.call bq; replace P4 := P4.call bq; replace P5 := P5.call bq
        refine hK.out _ _ R.S (fun hHeld2 => ?_)
        clear bq; clear hK K hHeld; have hHeld := hHeld2; clear hHeld2
        try simp only [Act.put, List.getElem_toArray, List.getElem_cons_zero, List.getElem_cons_succ, List.setIfInBounds_toArray, List.set_cons_zero, List.set_cons_succ]
        have k0 := P4.cell; have f0 := P4.frozen
        refine wpAnyH_ready (rs := [10]) (by kernel_rfl) (by simp) (AllReadyH.cons rfl (fun K hK => ?_) AllReadyH.nil)
        try simp only [Act.put, List.getElem_toArray, List.getElem_cons_zero, List.getElem_cons_succ, List.setIfInBounds_toArray, List.set_cons_zero, List.set_cons_succ]
        go_simp
        replace R := R.set P4.ge (.int .u32 a2); replace P5 := P5.other (x := .int .u32 a2) NE.out; replace P4 := P4.same (.int .u32 a2)
        refine hK.out _ _ R.S (fun hHeld2 => ?_)
        clear hK K hHeld; have hHeld := hHeld2; clear hHeld2
        try simp only [Act.put, List.getElem_toArray, List.getElem_cons_zero, List.getElem_cons_succ, List.setIfInBounds_toArray, List.set_cons_zero, List.set_cons_succ]
        clear k0 f0
        generalize w6.setCell ⟨w1.heap.size, 0, none⟩ (.int .u32 a2) = w7 at *
        have k0 := P5.cell; have f0 := P5.frozen
        refine wpAnyH_ready (rs := [11]) (by kernel_rfl) (by simp) (AllReadyH.cons rfl (fun K hK => ?_) AllReadyH.nil)
        try simp only [Act.put, List.getElem_toArray, List.getElem_cons_zero, List.getElem_cons_succ, List.setIfInBounds_toArray, List.set_cons_zero, List.set_cons_succ]
        go_simp
        replace R := R.set P5.ge (.int .u32 x); replace P4 := P4.other (x := .int .u32 x) (Ne.symm NE.out); replace P5 := P5.same (.int .u32 x)
        refine hK.out _ _ R.S (fun hHeld2 => ?_)
        clear hK K hHeld; have hHeld := hHeld2; clear hHeld2
        try simp only [Act.put, List.getElem_toArray, List.getElem_cons_zero, List.getElem_cons_succ, List.setIfInBounds_toArray, List.set_cons_zero, List.set_cons_succ]
        clear k0 f0
        generalize w7.setCell ⟨w3.heap.size, 0, none⟩ (.int .u32 x) = w8 at *
        exact wpAnyH_done (by kernel_rfl) (NoPanic.normal ⟨rfl, (w1.heap.size, w3.heap.size, j), rfl, R.B, R.D, P4.hp, P5.hp⟩) _
      refine AllReadyH.cons rfl (fun K hK => ?_) AllReadyH.nil
      go_simp
      have NE : Hid (w2.heap.size ≠ w1.heap.size) := Ne.symm P4.ne
      have P5 := R.new; replace P4 := P4.old (.cells #[.int .u32 0] 98); replace R := R.alloc (.cells #[.int .u32 0] 98)
      refine hK.out _ _ R.S (fun hHeld2 => ?_)
      clear hK K hHeld; have hHeld := hHeld2; clear hHeld2
      try simp only [Act.put, List.getElem_toArray, List.getElem_cons_zero, List.getElem_cons_succ, List.setIfInBounds_toArray, List.set_cons_zero, List.set_cons_succ]
      generalize w2.alloc (.cells #[.int .u32 0] 98) = w3 at *
      refine wpAnyH_ready (rs := [3]) (by kernel_rfl) (by simp) ?_
      refine AllReadyH.cons rfl (fun K hK => ?_) AllReadyH.nil
      go_simp
      refine (HA2.out _ R.B).mono ?_
      rintro e w4 ⟨j, rfl, hj, bq⟩
      replace R := R.call bq; replace P4 := P4.call bq; replace P5 := P5.call bq
      refine hK.out _ _ R.S (fun hHeld2 => ?_)
      clear bq; clear hK K hHeld; have hHeld := hHeld2; clear hHeld2
      try simp only [Act.put, List.getElem_toArray, List.getElem_cons_zero, List.getElem_cons_succ, List.setIfInBounds_toArray, List.set_cons_zero, List.set_cons_succ]
      refine wpAnyH_ready (rs := [4]) (by kernel_rfl) (by simp) ?_
      refine AllReadyH.cons rfl (fun K hK => ?_) AllReadyH.nil
      go_simp
      refine (HK2.out _ j hj R.B).mono ?_
      rintro e w5 ⟨rfl, bq⟩
      replace R := R.call bq; replace P4 := P4.call bq; replace P5 := P5.call bq
      refine hK.out _ _ R.S (fun hHeld2 => ?_)
      clear bq; clear hK K hHeld; have hHeld := hHeld2; clear hHeld2
      try simp only [Act.put, List.getElem_toArray, List.getElem_cons_zero, List.getElem_cons_succ, List.setIfInBounds_toArray, List.set_cons_zero, List.set_cons_succ]
      refine wpAnyH_ready (rs := [7]) (by kernel_rfl) (by simp) ?_
      refine AllReadyH.cons rfl (fun K hK => ?_) AllReadyH.nil
      go_simp
      refine (HK1.out _ R.B).mono ?_
      rintro e w6 ⟨rfl, bq⟩
      replace R := R.call bq; replace P4 := P4.call bq; replace P5 := P5.call bq
      refine hK.out _ _ R.S (fun hHeld2 => ?_)
      clear bq; clear hK K hHeld; have hHeld := hHeld2; clear hHeld2
      try simp only [Act.put, List.getElem_toArray, List.getElem_cons_zero, List.getElem_cons_succ, List.setIfInBounds_toArray, List.set_cons_zero, List.set_cons_succ]
      have k0 := P4.cell; have f0 := P4.frozen
      refine wpAnyH_ready (rs := [10]) (by kernel_rfl) (by simp) (AllReadyH.cons rfl (fun K hK => ?_) AllReadyH.nil)
      try simp only [Act.put, List.getElem_toArray, List.getElem_cons_zero, List.getElem_cons_succ, List.setIfInBounds_toArray, List.set_cons_zero, List.set_cons_succ]
      go_simp
      replace R := R.set P4.ge (.int .u32 a2); replace P5 := P5.other (x := .int .u32 a2) NE.out; replace P4 := P4.same (.int .u32 a2)
      refine hK.out _ _ R.S (fun hHeld2 => ?_)
      clear hK K hHeld; have hHeld := hHeld2; clear hHeld2
      try simp only [Act.put, List.getElem_toArray, List.getElem_cons_zero, List.getElem_cons_succ, List.setIfInBounds_toArray, List.set_cons_zero, List.set_cons_succ]
      clear k0 f0
      generalize w6.setCell ⟨w1.heap.size, 0, none⟩ (.int .u32 a2) = w7 at *
      have k0 := P5.cell; have f0 := P5.frozen
      refine wpAnyH_ready (rs := [11]) (by kernel_rfl) (by simp) (AllReadyH.cons rfl (fun K hK => ?_) AllReadyH.nil)
      try simp only [Act.put, List.getElem_toArray, List.getElem_cons_zero, List.getElem_cons_succ, List.setIfInBounds_toArray, List.set_cons_zero, List.set_cons_succ]
      go_simp
      replace R := R.set P5.ge (.int .u32 x); replace P4 := P4.other (x := .int .u32 x) (Ne.symm NE.out); replace P5 := P5.same (.int .u32 x)
      refine hK.out _ _ R.S (fun hHeld2 => ?_)
      clear hK K hHeld; have hHeld := hHeld2; clear hHeld2
      try simp only [Act.put, List.getElem_toArray, List.getElem_cons_zero, List.getElem_cons_succ, List.setIfInBounds_toArray, List.set_cons_zero, List.set_cons_succ]
      clear k0 f0
      generalize w7.setCell ⟨w2.heap.size, 0, none⟩ (.int .u32 x) = w8 at *
      exact wpAnyH_done (by kernel_rfl) (NoPanic.normal ⟨rfl, (w1.heap.size, w2.heap.size, j), rfl, R.B, R.D, P4.hp, P5.hp⟩) _
    refine AllReadyH.cons rfl (fun K hK => ?_) AllReadyH.nil
    go_simp
    have P5 := R.new; replace R := R.alloc (.cells #[.int .u32 0] 98)
    refine hK.out _ _ R.S (fun hHeld2 => ?_)
    clear hK K hHeld; have hHeld := hHeld2; clear hHeld2
    try simp only [Act.put, List.getElem_toArray, List.getElem_cons_zero, List.getElem_cons_succ, List.setIfInBounds_toArray, List.set_cons_zero, List.set_cons_succ]
    generalize w1.alloc (.cells #[.int .u32 0] 98) = w2 at *
    refine wpAnyH_ready (rs := [3, 8]) (by kernel_rfl) (by simp) ?_
    refine AllReadyH.cons rfl (fun K hK => ?_) ?_
    · go_simp
      refine (HA2.out _ R.B).mono ?_
      rintro e w3 ⟨j, rfl, hj, bq⟩
      replace R := R.call bq; replace P5 := P5.call bq
      refine hK.out _ _ R.S (fun hHeld2 => ?_)
      clear bq; clear hK K hHeld; have hHeld := hHeld2; clear hHeld2
      try simp only [Act.put, List.getElem_toArray, List.getElem_cons_zero, List.getElem_cons_succ, List.setIfInBounds_toArray, List.set_cons_zero, List.set_cons_succ]
      refine wpAnyH_ready (rs := [4, 8]) (by kernel_rfl) (by simp) ?_
      refine AllReadyH.cons rfl (fun K hK => ?_) ?_
      · go_simp
        refine (HK2.out _ j hj R.B).mono ?_
        rintro e w4 ⟨rfl, bq⟩
        replace R := R.call bq; replace P5 := P5.call bq
        refine hK.out _ _ R.S (fun hHeld2 => ?_)
        clear bq; clear hK K hHeld; have hHeld := hHeld2; clear hHeld2
        try simp only [Act.put, List.getElem_toArray, List.getElem_cons_zero, List.getElem_cons_succ, List.setIfInBounds_toArray, List.set_cons_zero, List.set_cons_succ]
        refine wpAnyH_ready (rs := [7, 8]) (by kernel_rfl) (by simp) ?_
        refine AllReadyH.cons rfl (fun K hK => ?_) ?_
        · go_simp
          refine (HK1.out _ R.B).mono ?_
          rintro e w5 ⟨rfl, bq⟩
          replace R := R.call bq; replace P5 := P5.call bq
          refine hK.out _ _ R.S (fun hHeld2 => ?_)
          clear bq; clear hK K hHeld; have hHeld := hHeld2; clear hHeld2
          try simp only [Act.put, List.getElem_toArray, List.getElem_cons_zero, List.getElem_cons_succ, List.setIfInBounds_toArray, List.set_cons_zero, List.set_cons_succ]
          refine wpAnyH_ready (rs := [8]) (by kernel_rfl) (by simp) ?_
          refine AllReadyH.cons rfl (fun K hK => ?_) AllReadyH.nil
          go_simp
          have NE : Hid (w1.heap.size ≠ w5.heap.size) := P5.ne
          have P4 := R.new; replace P5 := P5.old (.cells #[.int .u32 0] 98); replace R := R.alloc (.cells #[.int .u32 0] 98)
          refine hK.out _ _ R.S (fun hHeld2 => ?_)
          clear hK K hHeld; have hHeld := hHeld2; clear hHeld2
          try simp only [Act.put, List.getElem_toArray, List.getElem_cons_zero, List.getElem_cons_succ, List.setIfInBounds_toArray, List.set_cons_zero, List.set_cons_succ]
          generalize w5.alloc (.cells #[.int .u32 0] 98) = w6 at *
          have k0 := P4.cell; have f0 := P4.frozen
          refine wpAnyH_ready (rs := [10]) (by kernel_rfl) (by simp) (AllReadyH.cons rfl (fun K hK => ?_) AllReadyH.nil)
          try simp only [Act.put, List.getElem_toArray, List.getElem_cons_zero, List.getElem_cons_succ, List.setIfInBounds_toArray, List.set_cons_zero, List.set_cons_succ]
          go_simp
          replace R := R.set P4.ge (.int .u32 a2); replace P5 := P5.other (x := .int .u32 a2) NE.out; replace P4 := P4.same (.int .u32 a2)
          refine hK.out _ _ R.S (fun hHeld2 => ?_)
          clear hK K hHeld; have hHeld := hHeld2; clear hHeld2
          try simp only [Act.put, List.getElem_toArray, List.getElem_cons_zero, List.getElem_cons_succ, List.setIfInBounds_toArray, List.set_cons_zero, List.set_cons_succ]
          clear k0 f0
          generalize w6.setCell ⟨w5.heap.size, 0, none⟩ (.int .u32 a2) = w7 at *
          have k0 := P5.cell; have f0 := P5.frozen
          refine wpAnyH_ready (rs := [11]) (by kernel_rfl) (by simp) (AllReadyH.cons rfl (fun K hK => ?_) AllReadyH.nil)
          try simp only [Act.put, List.getElem_toArray, List.getElem_cons_zero, List.getElem_cons_succ, List.setIfInBounds_toArray, List.set_cons_zero, List.set_cons_succ]
          go_simp
          replace R := R.set P5.ge (.int .u32 x); replace P4 := P4.other (x := .int .u32 x) (Ne.symm NE.out); replace P5 := P5.same (.int .u32 x)
          refine hK.out _ _ R.S (fun hHeld2 => ?_)
          clear hK K hHeld; have hHeld := hHeld2; clear hHeld2
          try simp only [Act.put, List.getElem_toArray, List.getElem_cons_zero, List.getElem_cons_succ, List.setIfInBounds_toArray, List.set_cons_zero, List.set_cons_succ]
          clear k0 f0
          generalize w7.setCell ⟨w1.heap.size, 0, none⟩ (.int .u32 x) = w8 at *
          exact wpAnyH_done (by kernel_rfl) (NoPanic.normal ⟨rfl, (w5.heap.size, w1.heap.size, j), rfl, R.B, R.D, P4.hp, P5.hp⟩) _
        refine AllReadyH.cons rfl (fun K hK => ?_) AllReadyH.nil
        go_simp
        have NE : Hid (w1.heap.size ≠ w4.heap.size) := P5.ne
        have P4 := R.new; replace P5 := P5.old (.cells #[.int .u32 0] 98); replace R := R.alloc (.cells #[.int .u32 0] 98)
        refine hK.out _ _ R.S (fun hHeld2 => ?_)
        clear hK K hHeld; have hHeld := hHeld2; clear hHeld2
        try simp only [Act.put, List.getElem_toArray, List.getElem_cons_zero, List.getElem_cons_succ, List.setIfInBounds_toArray, List.set_cons_zero, List.set_cons_succ]
        generalize w4.alloc (.cells #[.int .u32 0] 98) = w5 at *
        refine wpAnyH_ready (rs := [7]) (by kernel_rfl) (by simp) ?_
        refine AllReadyH.cons rfl (fun K hK => ?_) AllReadyH.nil
        go_simp
        refine (HK1.out _ R.B).mono ?_
        rintro e w6 ⟨rfl, bq⟩
        replace R := R.call bq; replace P4 := P4.call bq; replace P5 := P5.call bq
        refine hK.out _ _ R.S (fun hHeld2 => ?_)
        clear bq; clear hK K hHeld; have hHeld := hHeld2; clear hHeld2
        try simp only [Act.put, List.getElem_toArray, List.getElem_cons_zero, List.getElem_cons_succ, List.setIfInBounds_toArray, List.set_cons_zero, List.set_cons_succ]
        have k0 := P4.cell; have f0 := P4.frozen
        refine wpAnyH_ready (rs := [10]) (by kernel_rfl) (by simp) (AllReadyH.cons rfl (fun K hK => ?_) AllReadyH.nil)
        try simp only [Act.put, List.getElem_toArray, List.getElem_cons_zero, List.getElem_cons_succ, List.setIfInBounds_toArray, List.set_cons_zero, List.set_cons_succ]
        go_simp
        replace R := R.set P4.ge (.int .u32 a2); replace P5 := P5.other (x := .int .u32 a2) NE.out; replace P4 := P4.same (.int .u32 a2)
        refine hK.out _ _ R.S (fun hHeld2 => ?_)
        clear hK K hHeld; have hHeld := hHeld2; clear hHeld2
        try simp only [Act.put, List.getElem_toArray, List.getElem_cons_zero, List.getElem_cons_succ, List.setIfInBounds_toArray, List.set_cons_zero, List.set_cons_succ]
        clear k0 f0
        generalize w6.setCell ⟨w4.heap.size, 0, none⟩ (.int .u32 a2) = w7 at *
        have k0 := P5.cell; have f0 := P5.frozen
        refine wpAnyH_ready (rs := [11]) (by kernel_rfl) (by simp) (AllReadyH.cons rfl (fun K hK => ?_) AllReadyH.nil)
        try simp only [Act.put, List.getElem_toArray, List.getElem_cons_zero, List.getElem_cons_succ, List.setIfInBounds_toArray, List.set_cons_zero, List.set_cons_succ]
        go_simp
        replace R := R.set P5.ge (.int .u32 x); replace P4 := P4.other (x := .int .u32 x) (Ne.symm NE.out); replace P5 := P5.same (.int .u32 x)
        refine hK.out _ _ R.S (fun hHeld2 => ?_)
        clear hK K hHeld; have hHeld := hHeld2; clear hHeld2
        try simp only [Act.put, List.getElem_toArray, List.getElem_cons_zero, List.getElem_cons_succ, List.setIfInBounds_toArray, List.set_cons_zero, List.set_cons_succ]
        clear k0 f0
        generalize w7.setCell ⟨w1.heap.size, 0, none⟩ (.int .u32 x) = w8 at *
        exact wpAnyH_done (by kernel_rfl) (NoPanic.normal ⟨rfl, (w4.heap.size, w1.heap.size, j), rfl, R.B, R.D, P4.hp, P5.hp⟩) _
      refine AllReadyH.cons rfl (fun K hK => ?_) AllReadyH.nil
      go_simp
      have NE : Hid (w1.heap.size ≠ w3.heap.size) := P5.ne
      have P4 := R.new; replace P5 := P5.old (.cells #[.int .u32 0] 98); replace R := R.alloc (.cells #[.int .u32 0] 98)
      refine hK.out _ _ R.S (fun hHeld2 => ?_)
      clear hK K hHeld; have hHeld := hHeld2; clear hHeld2
      try simp only [Act.put, List.getElem_toArray, List.getElem_cons_zero, List.getElem_cons_succ, List.setIfInBounds_toArray, List.set_cons_zero, List.set_cons_succ]
      generalize w3.alloc (.cells #[.int .u32 0] 98) = w4 at *
      refine wpAnyH_ready (rs := [4]) (by kernel_rfl) (by simp) ?_
      refine AllReadyH.cons rfl (fun K hK => ?_) AllReadyH.nil
      go_simp
      refine (HK2.out _ j hj R.B).mono ?_
      rintro e w5 ⟨rfl, bq⟩
      replace R := R.call bq; replace P4 := P4.call bq; replace P5 := P5.call bq
      refine hK.out _ _ R.S (fun hHeld2 => ?_)
      clear bq; clear hK K hHeld; have hHeld := hHeld2; clear hHeld2
      try simp only [Act.put, List.getElem_toArray, List.getElem_cons_zero, List.getElem_cons_succ, List.setIfInBounds_toArray, List.set_cons_zero, List.set_cons_succ]
      refine wpAnyH_ready (rs := [7]) (by kernel_rfl) (by simp) ?_
      refine AllReadyH.cons rfl (fun K hK => ?_) AllReadyH.nil
      go_simp
      refine (HK1.out _ R.B).mono ?_
      rintro e w6 ⟨rfl, bq⟩
      replace R := R.call bq; replace P4 := P4.call bq; replace P5 := P5.call bq
      refine hK.out _ _ R.S (fun hHeld2 => ?_)
      clear bq; clear hK K hHeld; have hHeld := hHeld2; clear hHeld2
      try simp only [Act.put, List.getElem_toArray, List.getElem_cons_zero, List.getElem_cons_succ, List.setIfInBounds_toArray, List.set_cons_zero, List.set_cons_succ]
      have k0 := P4.cell; have f0 := P4.frozen
      refine wpAnyH_ready (rs := [10]) (by kernel_rfl) (by simp) (AllReadyH.cons rfl (fun K hK => ?_) AllReadyH.nil)
      try simp only [Act.put, List.getElem_toArray, List.getElem_cons_zero, List.getElem_cons_succ, List.setIfInBounds_toArray, List.set_cons_zero, List.set_cons_succ]
      go_simp
      replace R := R.set P4.ge (.int .u32 a2); replace P5 := P5.other (x := .int .u32 a2) NE.out; replace P4 := P4.same (.int .u32 a2)
      refine hK.out _ _ R.S (fun hHeld2 => ?_)
      clear hK K hHeld; have hHeld := hHeld2; clear hHeld2
      try simp only [Act.put, List.getElem_toArray, List.getElem_cons_zero, List.getElem_cons_succ, List.setIfInBounds_toArray, List.set_cons_zero, List.set_cons_succ]
      clear k0 f0
      generalize w6.setCell ⟨w3.heap.size, 0, none⟩ (.int .u32 a2) = w7 at *
      have k0 := P5.cell; have f0 := P5.frozen
      refine wpAnyH_ready (rs := [11]) (by kernel_rfl) (by simp) (AllReadyH.cons rfl (fun K hK => ?_) AllReadyH.nil)
      try simp only [Act.put, List.getElem_toArray, List.getElem_cons_zero, List.getElem_cons_succ, List.setIfInBounds_toArray, List.set_cons_zero, List.set_cons_succ]
      go_simp
      replace R := R.set P5.ge (.int .u32 x); replace P4 := P4.other (x := .int .u32 x) (Ne.symm NE.out); replace P5 := P5.same (.int .u32 x)
      refine hK.out _ _ R.S (fun hHeld2 => ?_)
      clear hK K hHeld; have hHeld := hHeld2; clear hHeld2
      try simp only [Act.put, List.getElem_toArray, List.getElem_cons_zero, List.getElem_cons_succ, List.setIfInBounds_toArray, List.set_cons_zero, List.set_cons_succ]
      clear k0 f0
      generalize w7.setCell ⟨w1.heap.size, 0, none⟩ (.int .u32 x) = w8 at *
      exact wpAnyH_done (by kernel_rfl) (NoPanic.normal ⟨rfl, (w3.heap.size, w1.heap.size, j), rfl, R.B, R.D, P4.hp, P5.hp⟩) _
    refine AllReadyH.cons rfl (fun K hK => ?_) AllReadyH.nil
    go_simp
    have NE : Hid (w1.heap.size ≠ w2.heap.size) := P5.ne
    have P4 := R.new; replace P5 := P5.old (.cells #[.int .u32 0] 98); replace R := R.alloc (.cells #[.int .u32 0] 98)
    refine hK.out _ _ R.S (fun hHeld2 => ?_)
    clear hK K hHeld; have hHeld := hHeld2; clear hHeld2
    try simp only [Act.put, List.getElem_toArray, List.getElem_cons_zero, List.getElem_cons_succ, List.setIfInBounds_toArray, List.set_cons_zero, List.set_cons_succ]
    generalize w2.alloc (.cells #[.int .u32 0] 98) = w3 at *
    refine wpAnyH_ready (rs := [3]) (by kernel_rfl) (by simp) ?_
    refine AllReadyH.cons rfl (fun K hK => ?_) AllReadyH.nil
    go_simp
    refine (HA2.out _ R.B).mono ?_
    rintro e w4 ⟨j, rfl, hj, bq⟩
    replace R := R.call bq; replace P4 := P4.call bq; replace P5 := P5.call bq
    refine hK.out _ _ R.S (fun hHeld2 => ?_)
    clear bq; clear hK K hHeld; have hHeld := hHeld2; clear hHeld2
    try simp only [Act.put, List.getElem_toArray, List.getElem_cons_zero, List.getElem_cons_succ, List.setIfInBounds_toArray, List.set_cons_zero, List.set_cons_succ]
    refine wpAnyH_ready (rs := [4]) (by kernel_rfl) (by simp) ?_
    refine AllReadyH.cons rfl (fun K hK => ?_) AllReadyH.nil
    go_simp
    refine (HK2.out _ j hj R.B).mono ?_
    rintro e w5 ⟨rfl, bq⟩
    replace R := R.call bq; replace P4 := P4.call bq; replace P5 := P5.call bq
    refine hK.out _ _ R.S (fun hHeld2 => ?_)
    clear bq; clear hK K hHeld; have hHeld := hHeld2; clear hHeld2
    try simp only [Act.put, List.getElem_toArray, List.getElem_cons_zero, List.getElem_cons_succ, List.setIfInBounds_toArray, List.set_cons_zero, List.set_cons_succ]
    refine wpAnyH_ready (rs := [7]) (by kernel_rfl) (by simp) ?_
    refine AllReadyH.cons rfl (fun K hK => ?_) AllReadyH.nil
    go_simp
    refine (HK1.out _ R.B).mono ?_
    rintro e w6 ⟨rfl, bq⟩
    replace R := R.call bq; replace P4 := P4.call bq; replace P5 := P5.call bq
    refine hK.out _ _ R.S (fun hHeld2 => ?_)
    clear bq; clear hK K hHeld; have hHeld := hHeld2; clear hHeld2
    try simp only [Act.put, List.getElem_toArray, List.getElem_cons_zero, List.getElem_cons_succ, List.setIfInBounds_toArray, List.set_cons_zero, List.set_cons_succ]
    have k0 := P4.cell; have f0 := P4.frozen
    refine wpAnyH_ready (rs := [10]) (by kernel_rfl) (by simp) (AllReadyH.cons rfl (fun K hK => ?_) AllReadyH.nil)
    try simp only [Act.put, List.getElem_toArray, List.getElem_cons_zero, List.getElem_cons_succ, List.setIfInBounds_toArray, List.set_cons_zero, List.set_cons_succ]
    go_simp
    replace R := R.set P4.ge (.int .u32 a2); replace P5 := P5.other (x := .int .u32 a2) NE.out; replace P4 := P4.same (.int .u32 a2)
    refine hK.out _ _ R.S (fun hHeld2 => ?_)
    clear hK K hHeld; have hHeld := hHeld2; clear hHeld2
    try simp only [Act.put, List.getElem_toArray, List.getElem_cons_zero, List.getElem_cons_succ, List.setIfInBounds_toArray, List.set_cons_zero, List.set_cons_succ]
    clear k0 f0
    generalize w6.setCell ⟨w2.heap.size, 0, none⟩ (.int .u32 a2) = w7 at *
    have k0 := P5.cell; have f0 := P5.frozen
    refine wpAnyH_ready (rs := [11]) (by kernel_rfl) (by simp) (AllReadyH.cons rfl (fun K hK => ?_) AllReadyH.nil)
    try simp only [Act.put, List.getElem_toArray, List.getElem_cons_zero, List.getElem_cons_succ, List.setIfInBounds_toArray, List.set_cons_zero, List.set_cons_succ]
    go_simp
    replace R := R.set P5.ge (.int .u32 x); replace P4 := P4.other (x := .int .u32 x) (Ne.symm NE.out); replace P5 := P5.same (.int .u32 x)
    refine hK.out _ _ R.S (fun hHeld2 => ?_)
    clear hK K hHeld; have hHeld := hHeld2; clear hHeld2
    try simp only [Act.put, List.getElem_toArray, List.getElem_cons_zero, List.getElem_cons_succ, List.setIfInBounds_toArray, List.set_cons_zero, List.set_cons_succ]
    clear k0 f0
    generalize w7.setCell ⟨w1.heap.size, 0, none⟩ (.int .u32 x) = w8 at *
    exact wpAnyH_done (by kernel_rfl) (NoPanic.normal ⟨rfl, (w2.heap.size, w1.heap.size, j), rfl, R.B, R.D, P4.hp, P5.hp⟩) _
  · rintro ⟨p4, p5, j4⟩ wb ⟨Bb, Db, h4, h5⟩
    simp only [Act.put, List.setIfInBounds_toArray, List.set_cons_zero, List.set_cons_succ]
    have hsb : w.heap.size ≤ wb.heap.size := Bb.size
    have hgb : w.heap.size < wb.heap.size := Nat.lt_of_lt_of_le hga Db.size
    have f0 := cell_below Db e0
    have f1 := cell_below Db e1
    have f2 := cell_below Db e2
    have H4 : Hid (wb.heap[p4]? = some (.cells #[.int .u32 a2] 98 (0, 0))) := h4
    have H5 : Hid (wb.heap[p5]? = some (.cells #[.int .u32 x] 98 (0, 0))) := h5
    have HBb : Hid (Below w.heap.size w wb) := Bb
    clear e0 e1 e2 h4 h5 Bb Db HBa hsa HA2 HK2 HK1
    go_wp2
    refine region_k (ι := Nat × Nat × Int) (puts := fun v a => ((((((((((((a.put (some 22) (.agg #[.pointer (some ⟨t, 0, none⟩), .slice ao N cap, .int .i64 (n : Int)])).put (some 23) (.pointer (some ⟨w.heap.size, 2, none⟩))).put (some 24) (.int .i64 (n : Int))).put (some 25) (.int .u32 y)).put (some 26) (.agg #[.pointer (some ⟨t, 0, none⟩), .slice ao N cap, .int .i64 (n : Int)])).put (some 27) (.agg #[.pointer (some ⟨t, 0, none⟩), .slice ao N cap, .int .i64 (n : Int)])).put (some 28) (.pointer (some ⟨w.heap.size, 2, none⟩))).put (some 29) (.int .i64 (n : Int))).put (some 30) (.int .i64 v.2.2)).put (some 31) (.int .u32 b2)).put (some 6) (.pointer (some ⟨v.1, 0, none⟩))).put (some 7) (.pointer (some ⟨v.2.1, 0, none⟩))))
      (G := fun v W => Below w.heap.size w W ∧ Below wb.heap.size wb W ∧ W.heap[v.1]? = some (.cells #[.int .u32 y] 98 (0, 0)) ∧ W.heap[v.2.1]? = some (.cells #[.int .u32 b2] 98 (0, 0))) ?_ ?_
    · refine wp_region_noPanic ?_
      refine wp_region_held_drew (S := fun w' => w'.cell? ⟨w.heap.size, 0, none⟩ = some (.pointer (some ⟨t, 0, none⟩)) ∧ w'.cell? ⟨w.heap.size, 1, none⟩ = some (.slice ao N cap) ∧ w'.cell? ⟨w.heap.size, 2, none⟩ = some (.int .i64 (n : Int))) (by kernel_rfl) ⟨f0, f1, f2⟩ (fun hHeld => ?_)
      have R : Rg w wb w.heap.size (.pointer (some ⟨t, 0, none⟩)) (.slice ao N cap) (.int .i64 (n : Int)) wb.drew := ⟨HBb.out.drew, (Below.refl _ wb).drew, by simpa using f0, by simpa using f1, by simpa using f2⟩
      generalize wb.drew = w1 at *
      refine wpAnyH_take (i := 0) (v := ?_) rfl (by kernel_rfl) (by kernel_rfl) (by kernel_rfl) (fun _ _ _ h => h) (Or.inl ⟨by rfl, ?_⟩) (by assumption) ?_
      rotate_left
      · (intro w' hSw; (try dsimp only at hSw); go_simp; try with_reducible rfl)
      try simp only [Act.put, List.getElem_toArray, List.getElem_cons_zero, List.getElem_cons_succ, List.setIfInBounds_toArray, List.set_cons_zero, List.set_cons_succ]
      refine wpAnyH_take (i := 1) (v := ?_) rfl (by kernel_rfl) (by kernel_rfl) (by kernel_rfl) (fun _ _ _ h => h) (Or.inl ⟨by rfl, ?_⟩) (by assumption) ?_
      rotate_left
      · (intro w' hSw; (try dsimp only at hSw); go_simp; try with_reducible rfl)
      try simp only [Act.put, List.getElem_toArray, List.getElem_cons_zero, List.getElem_cons_succ, List.setIfInBounds_toArray, List.set_cons_zero, List.set_cons_succ]
      refine wpAnyH_take (i := 2) (v := ?_) rfl (by kernel_rfl) (by kernel_rfl) (by kernel_rfl) (fun _ _ _ h => h) (Or.inl ⟨by rfl, ?_⟩) (by assumption) ?_
      rotate_left
      · (intro w' hSw; (try dsimp only at hSw); go_simp; try with_reducible rfl)
      try simp only [Act.put, List.getElem_toArray, List.getElem_cons_zero, List.getElem_cons_succ, List.setIfInBounds_toArray, List.set_cons_zero, List.set_cons_succ]
      refine wpAnyH_take (i := 4) (v := ?_) rfl (by kernel_rfl) (by kernel_rfl) (by kernel_rfl) (fun _ _ _ h => h) (Or.inl ⟨by rfl, ?_⟩) (by assumption) ?_
      rotate_left
      · (intro w' hSw; (try dsimp only at hSw); go_simp; try with_reducible rfl)
      try simp only [Act.put, List.getElem_toArray, List.getElem_cons_zero, List.getElem_cons_succ, List.setIfInBounds_toArray, List.set_cons_zero, List.set_cons_succ]
      refine wpAnyH_take (i := 5) (v := ?_) rfl (by kernel_rfl) (by kernel_rfl) (by kernel_rfl) (fun _ _ _ h => h) (Or.inl ⟨by rfl, ?_⟩) (by assumption) ?_
      rotate_left
      · (intro w' hSw; (try dsimp only at hSw); go_simp; try with_reducible rfl)
      try simp only [Act.put, List.getElem_toArray, List.getElem_cons_zero, List.getElem_cons_succ, List.setIfInBounds_toArray, List.set_cons_zero, List.set_cons_succ]
      refine wpAnyH_take (i := 6) (v := ?_) rfl (by kernel_rfl) (by kernel_rfl) (by kernel_rfl) (fun _ _ _ h => h) (Or.inl ⟨by rfl, ?_⟩) (by assumption) ?_
      rotate_left
      · (intro w' hSw; (try dsimp only at hSw); go_simp; try with_reducible rfl)
      try simp only [Act.put, List.getElem_toArray, List.getElem_cons_zero, List.getElem_cons_succ, List.setIfInBounds_toArray, List.set_cons_zero, List.set_cons_succ]
      refine wpAnyH_take (i := 7) (v := ?_) rfl (by kernel_rfl) (by kernel_rfl) (by kernel_rfl) (fun _ _ _ h => h) (Or.inl ⟨by rfl, ?_⟩) (by assumption) ?_
      rotate_left
      · (intro w' hSw; (try dsimp only at hSw); go_simp; try with_reducible rfl)
      try simp only [Act.put, List.getElem_toArray, List.getElem_cons_zero, List.getElem_cons_succ, List.setIfInBounds_toArray, List.set_cons_zero, List.set_cons_succ]
      refine wpAnyH_ready (rs := [3, 10, 11]) (by kernel_rfl) (by simp) ?_
      refine AllReadyH.cons rfl (fun K hK => ?_) ?_
      · go_simp
        refine (HK3.out _ R.B).mono ?_
        rintro e w2 ⟨rfl, bq⟩
        replace R := R.call bq
        refine hK.out _ _ R.S (fun hHeld2 => ?_)
        clear bq; clear hK K hHeld; have hHeld := hHeld2; clear hHeld2
        try simp only [Act.put, List.getElem_toArray, List.getElem_cons_zero, List.getElem_cons_succ, List.setIfInBounds_toArray, List.set_cons_zero, List.set_cons_succ]
        refine wpAnyH_ready (rs := [8, 10, 11]) (by kernel_rfl) (by simp) ?_
        refine AllReadyH.cons rfl (fun K hK => ?_) ?_
        · go_simp
          refine (HBH.out _ R.B).mono ?_
          rintro e w3 ⟨j, rfl, hj, bq⟩
          replace R := R.call bq
          refine hK.out _ _ R.S (fun hHeld2 => ?_)
          clear bq; clear hK K hHeld; have hHeld := hHeld2; clear hHeld2
          try simp only [Act.put, List.getElem_toArray, List.getElem_cons_zero, List.getElem_cons_succ, List.setIfInBounds_toArray, List.set_cons_zero, List.set_cons_succ]
          refine wpAnyH_ready (rs := [9, 10, 11]) (by kernel_rfl) (by simp) ?_
          refine AllReadyH.cons rfl (fun K hK => ?_) ?_
          · go_simp
            refine (HK4.out _ j hj R.B).mono ?_
            rintro e w4 ⟨rfl, bq⟩
            replace R := R.call bq
            refine hK.out _ _ R.S (fun hHeld2 => ?_)
            clear bq; clear hK K hHeld; have hHeld := hHeld2; clear hHeld2
            try simp only [Act.put, List.getElem_toArray, List.getElem_cons_zero, List.getElem_cons_succ, List.setIfInBounds_toArray, List.set_cons_zero, List.set_cons_succ]
            refine wpAnyH_ready (rs := [10, 11]) (by kernel_rfl) (by simp) ?_
            refine AllReadyH.cons rfl (fun K hK => ?_) ?_
            · go_simp
              have P6 := R.new; replace R := R.alloc (.cells #[.int .u32 0] 98)
              refine hK.out _ _ R.S (fun hHeld2 => ?_)
              clear hK K hHeld; have hHeld := hHeld2; clear hHeld2
              try simp only [Act.put, List.getElem_toArray, List.getElem_cons_zero, List.getElem_cons_succ, List.setIfInBounds_toArray, List.set_cons_zero, List.set_cons_succ]
              generalize w4.alloc (.cells #[.int .u32 0] 98) = w5 at *
              refine wpAnyH_ready (rs := [11]) (by kernel_rfl) (by simp) ?_
              refine AllReadyH.cons rfl (fun K hK => ?_) AllReadyH.nil
              go_simp
              have NE : Hid (w5.heap.size ≠ w4.heap.size) := Ne.symm P6.ne
              have P7 := R.new; replace P6 := P6.old (.cells #[.int .u32 0] 98); replace R := R.alloc (.cells #[.int .u32 0] 98)
              refine hK.out _ _ R.S (fun hHeld2 => ?_)
              clear hK K hHeld; have hHeld := hHeld2; clear hHeld2
              try simp only [Act.put, List.getElem_toArray, List.getElem_cons_zero, List.getElem_cons_succ, List.setIfInBounds_toArray, List.set_cons_zero, List.set_cons_succ]
              generalize w5.alloc (.cells #[.int .u32 0] 98) = w6 at *
              have k0 := P6.cell; have f0 := P6.frozen
              refine wpAnyH_ready (rs := [12]) (by kernel_rfl) (by simp) (AllReadyH.cons rfl (fun K hK => ?_) AllReadyH.nil)
              try simp only [Act.put, List.getElem_toArray, List.getElem_cons_zero, List.getElem_cons_succ, List.setIfInBounds_toArray, List.set_cons_zero, List.set_cons_succ]
              go_simp
              replace R := R.set P6.ge (.int .u32 y); replace P7 := P7.other (x := .int .u32 y) NE.out; replace P6 := P6.same (.int .u32 y)
              refine hK.out _ _ R.S (fun hHeld2 => ?_)
              clear hK K hHeld; have hHeld := hHeld2; clear hHeld2
              try simp only [Act.put, List.getElem_toArray, List.getElem_cons_zero, List.getElem_cons_succ, List.setIfInBounds_toArray, List.set_cons_zero, List.set_cons_succ]
              clear k0 f0
              generalize w6.setCell ⟨w4.heap.size, 0, none⟩ (.int .u32 y) = w7 at *
              have k0 := P7.cell; have f0 := P7.frozen
              refine wpAnyH_ready (rs := [13]) (by kernel_rfl) (by simp) (AllReadyH.cons rfl (fun K hK => ?_) AllReadyH.nil)
              try simp only [Act.put, List.getElem_toArray, List.getElem_cons_zero, List.getElem_cons_succ, List.setIfInBounds_toArray, List.set_cons_zero, List.set_cons_succ]
              go_simp
              replace R := R.set P7.ge (.int .u32 b2); replace P6 := P6.other (x := .int .u32 b2) (Ne.symm NE.out); replace P7 := P7.same (.int .u32 b2)
              refine hK.out _ _ R.S (fun hHeld2 => ?_)
              clear hK K hHeld; have hHeld := hHeld2; clear hHeld2
              try simp only [Act.put, List.getElem_toArray, List.getElem_cons_zero, List.getElem_cons_succ, List.setIfInBounds_toArray, List.set_cons_zero, List.set_cons_succ]
              clear k0 f0
              generalize w7.setCell ⟨w5.heap.size, 0, none⟩ (.int .u32 b2) = w8 at *
              exact wpAnyH_done (by kernel_rfl) (NoPanic.normal ⟨rfl, (w4.heap.size, w5.heap.size, j), rfl, R.B, R.D, P6.hp, P7.hp⟩) _
            refine AllReadyH.cons rfl (fun K hK => ?_) AllReadyH.nil
            go_simp
            have P7 := R.new; replace R := R.alloc (.cells #[.int .u32 0] 98)
            refine hK.out _ _ R.S (fun hHeld2 => ?_)
            clear hK K hHeld; have hHeld := hHeld2; clear hHeld2
            try simp only [Act.put, List.getElem_toArray, List.getElem_cons_zero, List.getElem_cons_succ, List.setIfInBounds_toArray, List.set_cons_zero, List.set_cons_succ]
            generalize w4.alloc (.cells #[.int .u32 0] 98) = w5 at *
            refine wpAnyH_ready (rs := [10]) (by kernel_rfl) (by simp) ?_
            refine AllReadyH.cons rfl (fun K hK => ?_) AllReadyH.nil
            go_simp
            have NE : Hid (w4.heap.size ≠ w5.heap.size) := P7.ne
            have P6 := R.new; replace P7 := P7.old (.cells #[.int .u32 0] 98); replace R := R.alloc (.cells #[.int .u32 0] 98)
            refine hK.out _ _ R.S (fun hHeld2 => ?_)
            clear hK K hHeld; have hHeld := hHeld2; clear hHeld2
            try simp only [Act.put, List.getElem_toArray, List.getElem_cons_zero, List.getElem_cons_succ, List.setIfInBounds_toArray, List.set_cons_zero, List.set_cons_succ]
            generalize w5.alloc (.cells #[.int .u32 0] 98) = w6 at *
            have k0 := P6.cell; have f0 := P6.frozen
            refine wpAnyH_ready (rs := [12]) (by kernel_rfl) (by simp) (AllReadyH.cons rfl (fun K hK => ?_) AllReadyH.nil)
            try simp only [Act.put, List.getElem_toArray, List.getElem_cons_zero, List.getElem_cons_succ, List.setIfInBounds_toArray, List.set_cons_zero, List.set_cons_succ]
            go_simp
            replace R := R.set P6.ge (.int .u32 y); replace P7 := P7.other (x := .int .u32 y) NE.out; replace P6 := P6.same (.int .u32 y)
            refine hK.out _ _ R.S (fun hHeld2 => ?_)
            clear hK K hHeld; have hHeld := hHeld2; clear hHeld2
            try simp only [Act.put, List.getElem_toArray, List.getElem_cons_zero, List.getElem_cons_succ, List.setIfInBounds_toArray, List.set_cons_zero, List.set_cons_succ]
            clear k0 f0
            generalize w6.setCell ⟨w5.heap.size, 0, none⟩ (.int .u32 y) = w7 at *
            have k0 := P7.cell; have f0 := P7.frozen
            refine wpAnyH_ready (rs := [13]) (by kernel_rfl) (by simp) (AllReadyH.cons rfl (fun K hK => ?_) AllReadyH.nil)
            try simp only [Act.put, List.getElem_toArray, List.getElem_cons_zero, List.getElem_cons_succ, List.setIfInBounds_toArray, List.set_cons_zero, List.set_cons_succ]
            go_simp
            replace R := R.set P7.ge (.int .u32 b2); replace P6 := P6.other (x := .int .u32 b2) (Ne.symm NE.out); replace P7 := P7.same (.int .u32 b2)
            refine hK.out _ _ R.S (fun hHeld2 => ?_)
            clear hK K hHeld; have hHeld := hHeld2; clear hHeld2
            try simp only [Act.put, List.getElem_toArray, List.getElem_cons_zero, List.getElem_cons_succ, List.setIfInBounds_toArray, List.set_cons_zero, List.set_cons_succ]
            clear k0 f0
            generalize w7.setCell ⟨w4.heap.size, 0, none⟩ (.int .u32 b2) = w8 at *
            exact wpAnyH_done (by kernel_rfl) (NoPanic.normal ⟨rfl, (w5.heap.size, w4.heap.size, j), rfl, R.B, R.D, P6.hp, P7.hp⟩) _
          refine AllReadyH.cons rfl (fun K hK => ?_) ?_
          · go_simp
            have P6 := R.new; replace R := R.alloc (.cells #[.int .u32 0] 98)
            refine hK.out _ _ R.S (fun hHeld2 => ?_)
            clear hK K hHeld; have hHeld := hHeld2; clear hHeld2
            try simp only [Act.put, List.getElem_toArray, List.getElem_cons_zero, List.getElem_cons_succ, List.setIfInBounds_toArray, List.set_cons_zero, List.set_cons_succ]
            generalize w3.alloc (.cells #[.int .u32 0] 98) = w4 at *
            refine wpAnyH_ready (rs := [9, 11]) (by kernel_rfl) (by simp) ?_
            refine AllReadyH.cons rfl (fun K hK => ?_) ?_
            · go_simp
              refine (HK4.out _ j hj R.B).mono ?_
              rintro e w5 ⟨rfl, bq⟩
              replace R := R.call bq; replace P6 := P6.call bq
              refine hK.out _ _ R.S (fun hHeld2 => ?_)
              clear bq; clear hK K hHeld; have hHeld := hHeld2; clear hHeld2
              try simp only [Act.put, List.getElem_toArray, List.getElem_cons_zero, List.getElem_cons_succ, List.setIfInBounds_toArray, List.set_cons_zero, List.set_cons_succ]
              refine wpAnyH_ready (rs := [11]) (by kernel_rfl) (by simp) ?_
              refine AllReadyH.cons rfl (fun K hK => ?_) AllReadyH.nil
              go_simp
              have NE : Hid (w5.heap.size ≠ w3.heap.size) := Ne.symm P6.ne
              have P7 := R.new; replace P6 := P6.old (.cells #[.int .u32 0] 98); replace R := R.alloc (.cells #[.int .u32 0] 98)
              refine hK.out _ _ R.S (fun hHeld2 => ?_)
              clear hK K hHeld; have hHeld := hHeld2; clear hHeld2
              try simp only [Act.put, List.getElem_toArray, List.getElem_cons_zero, List.getElem_cons_succ, List.setIfInBounds_toArray, List.set_cons_zero, List.set_cons_succ]
              generalize w5.alloc (.cells #[.int .u32 0] 98) = w6 at *
              have k0 := P6.cell; have f0 := P6.frozen
              refine wpAnyH_ready (rs := [12]) (by kernel_rfl) (by simp) (AllReadyH.cons rfl (fun K hK => ?_) AllReadyH.nil)
              try simp only [Act.put, List.getElem_toArray, List.getElem_cons_zero, List.getElem_cons_succ, List.setIfInBounds_toArray, List.set_cons_zero, List.set_cons_succ]
              go_simp
              replace R := R.set P6.ge (.int .u32 y); replace P7 := P7.other (x := .int .u32 y) NE.out; replace P6 := P6.same (.int .u32 y)
              refine hK.out _ _ R.S (fun hHeld2 => ?_)
              clear hK K hHeld; have hHeld := hHeld2; clear hHeld2
              try simp only [Act.put, List.getElem_toArray, List.getElem_cons_zero, List.getElem_cons_succ, List.setIfInBounds_toArray, List.set_cons_zero, List.set_cons_succ]
              clear k0 f0
              generalize w6.setCell ⟨w3.heap.size, 0, none⟩ (.int .u32 y) = w7 at *
              have k0 := P7.cell; have f0 := P7.frozen
              refine wpAnyH_ready (rs := [13]) (by kernel_rfl) (by simp) (AllReadyH.cons rfl (fun K hK => ?_) AllReadyH.nil)
              try simp only [Act.put, List.getElem_toArray, List.getElem_cons_zero, List.getElem_cons_succ, List.setIfInBounds_toArray, List.set_cons_zero, List.set_cons_succ]
              go_simp
              replace R := R.set P7.ge (.int .u32 b2); replace P6 := P6.other (x := .int .u32 b2) (Ne.symm NE.out); replace P7 := P7.same (.int .u32 b2)
              refine hK.out _ _ R.S (fun hHeld2 => ?_)
              clear hK K hHeld; have hHeld := hHeld2; clear hHeld2
              try simp only [Act.put, List.getElem_toArray, List.getElem_cons_zero, List.getElem_cons_succ, List.setIfInBounds_toArray, List.set_cons_zero, List.set_cons_succ]
              clear k0 f0
              generalize w7.setCell ⟨w5.heap.size, 0, none⟩ (.int .u32 b2) = w8 at *
              exact wpAnyH_done (by kernel_rfl) (NoPanic.normal ⟨rfl, (w3.heap.size, w5.heap.size, j), rfl, R.B, R.D, P6.hp, P7.hp⟩) _
            refine AllReadyH.cons rfl (fun K hK => ?_) AllReadyH.nil
            go_simp
            have NE : Hid (w4.heap.size ≠ w3.heap.size) := Ne.symm P6.ne
            have P7 := R.new; replace P6 := P6.old (.cells #[.int .u32 0] 98); replace R := R.alloc (.cells #[.int .u32 0] 98)
            refine hK.out _ _ R.S (fun hHeld2 => ?_)
            clear hK K hHeld; have hHeld := hHeld2; clear hHeld2
            try simp only [Act.put, List.getElem_toArray, List.getElem_cons_zero, List.getElem_cons_succ, List.setIfInBounds_toArray, List.set_cons_zero, List.set_cons_succ]
            generalize w4.alloc (.cells #[.int .u32 0] 98) = w5 at *
            refine wpAnyH_ready (rs := [9]) (by kernel_rfl) (by simp) ?_
            refine AllReadyH.cons rfl (fun K hK => ?_) AllReadyH.nil
            go_simp
            refine (HK4.out _ j hj R.B).mono ?_
            rintro e w6 ⟨rfl, bq⟩
            replace R := R.call bq; replace P6 := P6.call bq; replace P7 := P7.call bq
            refine hK.out _ _ R.S (fun hHeld2 => ?_)
            clear bq; clear hK K hHeld; have hHeld := hHeld2; clear hHeld2
            try simp only [Act.put, List.getElem_toArray, List.getElem_cons_zero, List.getElem_cons_succ, List.setIfInBounds_toArray, List.set_cons_zero, List.set_cons_succ]
            have k0 := P6.cell; have f0 := P6.frozen
            refine wpAnyH_ready (rs := [12]) (by kernel_rfl) (by simp) (AllReadyH.cons rfl (fun K hK => ?_) AllReadyH.nil)
            try simp only [Act.put, List.getElem_toArray, List.getElem_cons_zero, List.getElem_cons_succ, List.setIfInBounds_toArray, List.set_cons_zero, List.set_cons_succ]
            go_simp
            replace R := R.set P6.ge (.int .u32 y); replace P7 := P7.other (x := .int .u32 y) NE.out; replace P6 := P6.same (.int .u32 y)
            refine hK.out _ _ R.S (fun hHeld2 => ?_)
            clear hK K hHeld; have hHeld := hHeld2; clear hHeld2
            try simp only [Act.put, List.getElem_toArray, List.getElem_cons_zero, List.getElem_cons_succ, List.setIfInBounds_toArray, List.set_cons_zero, List.set_cons_succ]
            clear k0 f0
            generalize w6.setCell ⟨w3.heap.size, 0, none⟩ (.int .u32 y) = w7 at *
            have k0 := P7.cell; have f0 := P7.frozen
            refine wpAnyH_ready (rs := [13]) (by kernel_rfl) (by simp) (AllReadyH.cons rfl (fun K hK => ?_) AllReadyH.nil)
            try simp only [Act.put, List.getElem_toArray, List.getElem_cons_zero, List.getElem_cons_succ, List.setIfInBounds_toArray, List.set_cons_zero, List.set_cons_succ]
            go_simp
            replace R := R.set P7.ge (.int .u32 b2); replace P6 := P6.other (x := .int .u32 b2) (Ne.symm NE.out); replace P7 := P7.same (.int .u32 b2)
            refine hK.out _ _ R.S (fun hHeld2 => ?_)
            clear hK K hHeld; have hHeld := hHeld2; clear hHeld2
            try simp only [Act.put, List.getElem_toArray, List.getElem_cons_zero, List.getElem_cons_succ, List.setIfInBounds_toArray, List.set_cons_zero, List.set_cons_succ]
            clear k0 f0
            generalize w7.setCell ⟨w4.heap.size, 0, none⟩ (.int .u32 b2) = w8 at *
            exact wpAnyH_done (by kernel_rfl) (NoPanic.normal ⟨rfl, (w3.heap.size, w4.heap.size, j), rfl, R.B, R.D, P6.hp, P7.hp⟩) _
          refine AllReadyH.cons rfl (fun K hK => ?_) AllReadyH.nil
          go_simp
          have P7 := R.new; replace R := R.alloc (.cells #[.int .u32 0] 98)
          refine hK.out _ _ R.S (fun hHeld2 => ?_)
          clear hK K hHeld; have hHeld := hHeld2; clear hHeld2
          try simp only [Act.put, List.getElem_toArray, List.getElem_cons_zero, List.getElem_cons_succ, List.setIfInBounds_toArray, List.set_cons_zero, List.set_cons_succ]
          generalize w3.alloc (.cells #[.int .u32 0] 98) = w4 at *
          refine wpAnyH_ready (rs := [9, 10]) (by kernel_rfl) (by simp) ?_
          refine AllReadyH.cons rfl (fun K hK => ?_) ?_
          · go_simp
            refine (HK4.out _ j hj R.B).mono ?_
            rintro e w5 ⟨rfl, bq⟩
            replace R := R.call bq; replace P7 := P7.call bq
            refine hK.out _ _ R.S (fun hHeld2 => ?_)
            clear bq; clear hK K hHeld; have hHeld := hHeld2; clear hHeld2
            try simp only [Act.put, List.getElem_toArray, List.getElem_cons_zero, List.getElem_cons_succ, List.setIfInBounds_toArray, List.set_cons_zero, List.set_cons_succ]
            refine wpAnyH_ready (rs := [10]) (by kernel_rfl) (by simp) ?_
            refine AllReadyH.cons rfl (fun K hK => ?_) AllReadyH.nil
            go_simp
            have NE : Hid (w3.heap.size ≠ w5.heap.size) := P7.ne
            have P6 := R.new; replace P7 := P7.old (.cells #[.int .u32 0] 98); replace R := R.alloc (.cells #[.int .u32 0] 98)
            refine hK.out _ _ R.S (fun hHeld2 => ?_)
            clear hK K hHeld; have hHeld := hHeld2; clear hHeld2
            try simp only [Act.put, List.getElem_toArray, List.getElem_cons_zero, List.getElem_cons_succ, List.setIfInBounds_toArray, List.set_cons_zero, List.set_cons_succ]
            generalize w5.alloc (.cells #[.int .u32 0] 98) = w6 at *
            have k0 := P6.cell; have f0 := P6.frozen
            refine wpAnyH_ready (rs := [12]) (by kernel_rfl) (by simp) (AllReadyH.cons rfl (fun K hK => ?_) AllReadyH.nil)
            try simp only [Act.put, List.getElem_toArray, List.getElem_cons_zero, List.getElem_cons_succ, List.setIfInBounds_toArray, List.set_cons_zero, List.set_cons_succ]
            go_simp
            replace R := R.set P6.ge (.int .u32 y); replace P7 := P7.other (x := .int .u32 y) NE.out; replace P6 := P6.same (.int .u32 y)
            refine hK.out _ _ R.S (fun hHeld2 => ?_)
            clear hK K hHeld; have hHeld := hHeld2; clear hHeld2
            try simp only [Act.put, List.getElem_toArray, List.getElem_cons_zero, List.getElem_cons_succ, List.setIfInBounds_toArray, List.set_cons_zero, List.set_cons_succ]
            clear k0 f0
            generalize w6.setCell ⟨w5.heap.size, 0, none⟩ (.int .u32 y) = w7 at *
            have k0 := P7.cell; have f0 := P7.frozen
            refine wpAnyH_ready (rs := [13]) (by kernel_rfl) (by simp) (AllReadyH.cons rfl (fun K hK => ?_) AllReadyH.nil)
            try simp only [Act.put, List.getElem_toArray, List.getElem_cons_zero, List.getElem_cons_succ, List.setIfInBounds_toArray, List.set_cons_zero, List.set_cons_succ]
            go_simp
            replace R := R.set P7.ge (.int .u32 b2); replace P6 := P6.other (x := .int .u32 b2) (Ne.symm NE.out); replace P7 := P7.same (.int .u32 b2)
            refine hK.out _ _ R.S (fun hHeld2 => ?_)
            clear hK K hHeld; have hHeld := hHeld2; clear hHeld2
            try simp only [Act.put, List.getElem_toArray, List.getElem_cons_zero, List.getElem_cons_succ, List.setIfInBounds_toArray, List.set_cons_zero, List.set_cons_succ]
            clear k0 f0
            generalize w7.setCell ⟨w3.heap.size, 0, none⟩ (.int .u32 b2) = w8 at *
            exact wpAnyH_done (by kernel_rfl) (NoPanic.normal ⟨rfl, (w5.heap.size, w3.heap.size, j), rfl, R.B, R.D, P6.hp, P7.hp⟩) _
          refine AllReadyH.cons rfl (fun K hK => ?_) AllReadyH.nil
          go_simp
          have NE : Hid (w3.heap.size ≠ w4.heap.size) := P7.ne
          have P6 := R.new; replace P7 := P7.old (.cells #[.int .u32 0] 98); replace R := R.alloc (.cells #[.int .u32 0] 98)
          refine hK.out _ _ R.S (fun hHeld2 => ?_)
          clear hK K hHeld; have hHeld := hHeld2; clear hHeld2
          try simp only [Act.put, List.getElem_toArray, List.getElem_cons_zero, List.getElem_cons_succ, List.setIfInBounds_toArray, List.set_cons_zero, List.set_cons_succ]
          generalize w4.alloc (.cells #[.int .u32 0] 98) = w5 at *
          refine wpAnyH_ready (rs := [9]) (by kernel_rfl) (by simp) ?_
          refine AllReadyH.cons rfl (fun K hK => ?_) AllReadyH.nil
          go_simp
          refine (HK4.out _ j hj R.B).mono ?_
          rintro e w6 ⟨rfl, bq⟩
          replace R := R.call bq; replace P6 := P6.call bq; replace P7 := P7.call bq
          refine hK.out _ _ R.S (fun hHeld2 => ?_)
          clear bq; clear hK K hHeld; have hHeld := hHeld2; clear hHeld2
          try simp only [Act.put, List.getElem_toArray, List.getElem_cons_zero, List.getElem_cons_succ, List.setIfInBounds_toArray, List.set_cons_zero, List.set_cons_succ]
          have k0 := P6.cell; have f0 := P6.frozen
          refine wpAnyH_ready (rs := [12]) (by kernel_rfl) (by simp) (AllReadyH.cons rfl (fun K hK => ?_) AllReadyH.nil)
          try simp only [Act.put, List.getElem_toArray, List.getElem_cons_zero, List.getElem_cons_succ, List.setIfInBounds_toArray, List.set_cons_zero, List.set_cons_succ]
          go_simp
          replace R := R.set P6.ge (.int .u32 y); replace P7 := P7.other (x := .int .u32 y) NE.out; replace P6 := P6.same (.int .u32 y)
          refine hK.out _ _ R.S (fun hHeld2 => ?_)
          clear hK K hHeld; have hHeld := hHeld2; clear hHeld2
          try simp only [Act.put, List.getElem_toArray, List.getElem_cons_zero, List.getElem_cons_succ, List.setIfInBounds_toArray, List.set_cons_zero, List.set_cons_succ]
          clear k0 f0
          generalize w6.setCell ⟨w4.heap.size, 0, none⟩ (.int .u32 y) = w7 at *
          have k0 := P7.cell; have f0 := P7.frozen
          refine wpAnyH_ready (rs := [13]) (by kernel_rfl) (by simp) (AllReadyH.cons rfl (fun K hK => ?_) AllReadyH.nil)
          try simp only [Act.put, List.getElem_toArray, List.getElem_cons_zero, List.getElem_cons_succ, List.setIfInBounds_toArray, List.set_cons_zero, List.set_cons_succ]
          go_simp
          replace R := R.set P7.ge (.int .u32 b2); replace P6 := P6.other (x := .int .u32 b2) (Ne.symm NE.out); replace P7 := P7.same (.int .u32 b2)
          refine hK.out _ _ R.S (fun hHeld2 => ?_)
          clear hK K hHeld; have hHeld := hHeld2; clear hHeld2
          try simp only [Act.put, List.getElem_toArray, List.getElem_cons_zero, List.getElem_cons_succ, List.setIfInBounds_toArray, List.set_cons_zero, List.set_cons_succ]
          clear k0 f0
          generalize w7.setCell ⟨w3.heap.size, 0, none⟩ (.int .u32 b2) = w8 at *
          exact wpAnyH_done (by kernel_rfl) (NoPanic.normal ⟨rfl, (w4.heap.size, w3.heap.size, j), rfl, R.B, R.D, P6.hp, P7.hp⟩) _
        refine AllReadyH.cons rfl (fun K hK => ?_) ?_
        · go_simp
          have P6 := R.new; replace R := R.alloc (.cells #[.int .u32 0] 98)
          refine hK.out _ _ R.S (fun hHeld2 => ?_)
          clear hK K hHeld; have hHeld := hHeld2; clear hHeld2
          try simp only [Act.put, List.getElem_toArray, List.getElem_cons_zero, List.getElem_cons_succ, List.setIfInBounds_toArray, List.set_cons_zero, List.set_cons_succ]
          generalize w2.alloc (.cells #[.int .u32 0] 98) = w3 at *
          refine wpAnyH_ready (rs := [8, 11]) (by kernel_rfl) (by simp) ?_
          refine AllReadyH.cons rfl (fun K hK => ?_) ?_
          · go_simp
            refine (HBH.out _ R.B).mono ?_
            rintro e w4 ⟨j, rfl, hj, bq⟩
            replace R := R.call bq; replace P6 := P6.call bq
            refine hK.out _ _ R.S (fun hHeld2 => ?_)
            clear bq; clear hK K hHeld; have hHeld := hHeld2; clear hHeld2
            try simp only [Act.put, List.getElem_toArray, List.getElem_cons_zero, List.getElem_cons_succ, List.setIfInBounds_toArray, List.set_cons_zero, List.set_cons_succ]
            refine wpAnyH_ready (rs := [9, 11]) (by kernel_rfl) (by simp) ?_
            refine AllReadyH.cons rfl (fun K hK => ?_) ?_
            · go_simp
              refine (HK4.out _ j hj R.B).mono ?_
              rintro e w5 ⟨rfl, bq⟩
              replace R := R.call bq; replace P6 := P6.call bq
              refine hK.out _ _ R.S (fun hHeld2 => ?_)
              clear bq; clear hK K hHeld; have hHeld := hHeld2; clear hHeld2
              try simp only [Act.put, List.getElem_toArray, List.getElem_cons_zero, List.getElem_cons_succ, List.setIfInBounds_toArray, List.set_cons_zero, List.set_cons_succ]
              refine wpAnyH_ready (rs := [11]) (by kernel_rfl) (by simp) ?_
              refine AllReadyH.cons rfl (fun K hK => ?_) AllReadyH.nil
              go_simp
              have NE : Hid (w5.heap.size ≠ w2.heap.size) := Ne.symm P6.ne
              have P7 := R.new; replace P6 := P6.old (.cells #[.int .u32 0] 98); replace R := R.alloc (.cells #[.int .u32 0] 98)
              refine hK.out _ _ R.S (fun hHeld2 => ?_)
              clear hK K hHeld; have hHeld := hHeld2; clear hHeld2
              try simp only [Act.put, List.getElem_toArray, List.getElem_cons_zero, List.getElem_cons_succ, List.setIfInBounds_toArray, List.set_cons_zero, List.set_cons_succ]
              generalize w5.alloc (.cells #[.int .u32 0] 98) = w6 at *
              have k0 := P6.cell; have f0 := P6.frozen
              refine wpAnyH_ready (rs := [12]) (by kernel_rfl) (by simp) (AllReadyH.cons rfl (fun K hK => ?_) AllReadyH.nil)
              try simp only [Act.put, List.getElem_toArray, List.getElem_cons_zero, List.getElem_cons_succ, List.setIfInBounds_toArray, List.set_cons_zero, List.set_cons_succ]
              go_simp
              replace R := R.set P6.ge (.int .u32 y); replace P7 := P7.other (x := .int .u32 y) NE.out; replace P6 := P6.same (.int .u32 y)
              refine hK.out _ _ R.S (fun hHeld2 => ?_)
              clear hK K hHeld; have hHeld := hHeld2; clear hHeld2
              try simp only [Act.put, List.getElem_toArray, List.getElem_cons_zero, List.getElem_cons_succ, List.setIfInBounds_toArray, List.set_cons_zero, List.set_cons_succ]
              clear k0 f0
              generalize w6.setCell ⟨w2.heap.size, 0, none⟩ (.int .u32 y) = w7 at *
              have k0 := P7.cell; have f0 := P7.frozen
              refine wpAnyH_ready (rs := [13]) (by kernel_rfl) (by simp) (AllReadyH.cons rfl (fun K hK => ?_) AllReadyH.nil)
              try simp only [Act.put, List.getElem_toArray, List.getElem_cons_zero, List.getElem_cons_succ, List.setIfInBounds_toArray, List.set_cons_zero, List.set_cons_succ]
              go_simp
              replace R := R.set P7.ge (.int .u32 b2); replace P6 := P6.other (x := .int .u32 b2) (Ne.symm NE.out); replace P7 := P7.same (.int .u32 b2)
              refine hK.out _ _ R.S (fun hHeld2 => ?_)
              clear hK K hHeld; have hHeld := hHeld2; clear hHeld2
              try simp only [Act.put, List.getElem_toArray, List.getElem_cons_zero, List.getElem_cons_succ, List.setIfInBounds_toArray, List.set_cons_zero, List.set_cons_succ]
              clear k0 f0
              generalize w7.setCell ⟨w5.heap.size, 0, none⟩ (.int .u32 b2) = w8 at *
              exact wpAnyH_done (by kernel_rfl) (NoPanic.normal ⟨rfl, (w2.heap.size, w5.heap.size, j), rfl, R.B, R.D, P6.hp, P7.hp⟩) _
            refine AllReadyH.cons rfl (fun K hK => ?_) AllReadyH.nil
            go_simp
            have NE : Hid (w4.heap.size ≠ w2.heap.size) := Ne.symm P6.ne
            have P7 := R.new; replace P6 := P6.old (.cells #[.int .u32 0] 98); replace R := R.alloc (.cells #[.int .u32 0] 98)
            refine hK.out _ _ R.S (fun hHeld2 => ?_)
            clear hK K hHeld; have hHeld := hHeld2; clear hHeld2
            try simp only [Act.put, List.getElem_toArray, List.getElem_cons_zero, List.getElem_cons_succ, List.setIfInBounds_toArray, List.set_cons_zero, List.set_cons_succ]
            generalize w4.alloc (.cells #[.int .u32 0] 98) = w5 at *
            refine wpAnyH_ready (rs := [9]) (by kernel_rfl) (by simp) ?_
            refine AllReadyH.cons rfl (fun K hK => ?_) AllReadyH.nil
            go_simp
            refine (HK4.out _ j hj R.B).mono ?_
            rintro e w6 ⟨rfl, bq⟩
            replace R := R.call bq; replace P6 := P6.call bq; replace P7 := P7.call bq
            refine hK.out _ _ R.S (fun hHeld2 => ?_)
            clear bq; clear hK K hHeld; have hHeld := hHeld2; clear hHeld2
            try simp only [Act.put, List.getElem_toArray, List.getElem_cons_zero, List.getElem_cons_succ, List.setIfInBounds_toArray, List.set_cons_zero, List.set_cons_succ]
            have k0 := P6.cell; have f0 := P6.frozen
            refine wpAnyH_ready (rs := [12]) (by kernel_rfl) (by simp) (AllReadyH.cons rfl (fun K hK => ?_) AllReadyH.nil)
            try simp only [Act.put, List.getElem_toArray, List.getElem_cons_zero, List.getElem_cons_succ, List.setIfInBounds_toArray, List.set_cons_zero, List.set_cons_succ]
            go_simp
            replace R := R.set P6.ge (.int .u32 y); replace P7 := P7.other (x := .int .u32 y) NE.out; replace P6 := P6.same (.int .u32 y)
            refine hK.out _ _ R.S (fun hHeld2 => ?_)
            clear hK K hHeld; have hHeld := hHeld2; clear hHeld2
            try simp only [Act.put, List.getElem_toArray, List.getElem_cons_zero, List.getElem_cons_succ, List.setIfInBounds_toArray, List.set_cons_zero, List.set_cons_succ]
            clear k0 f0
            generalize w6.setCell ⟨w2.heap.size, 0, none⟩ (.int .u32 y) = w7 at *
            have k0 := P7.cell; have f0 := P7.frozen
            refine wpAnyH_ready (rs := [13]) (by kernel_rfl) (by simp) (AllReadyH.cons rfl (fun K hK => ?_) AllReadyH.nil)
            try simp only [Act.put, List.getElem_toArray, List.getElem_cons_zero, List.getElem_cons_succ, List.setIfInBounds_toArray, List.set_cons_zero, List.set_cons_succ]
            go_simp
            replace R := R.set P7.ge (.int .u32 b2); replace P6 := P6.other (x := .int .u32 b2) (Ne.symm NE.out); replace P7 := P7.same (.int .u32 b2)
            refine hK.out _ _ R.S (fun hHeld2 => ?_)
            clear hK K hHeld; have hHeld := hHeld2; clear hHeld2
            try simp only [Act.put, List.getElem_toArray, List.getElem_cons_zero, List.getElem_cons_succ, List.setIfInBounds_toArray, List.set_cons_zero, List.set_cons_succ]
            clear k0 f0
            generalize w7.setCell ⟨w4.heap.size, 0, none⟩ (.int .u32 b2) = w8 at *
            exact wpAnyH_done (by kernel_rfl) (NoPanic.normal ⟨rfl, (w2.heap.size, w4.heap.size, j), rfl, R.B, R.D, P6.hp, P7.hp⟩) _
          refine AllReadyH.cons rfl (fun K hK => ?_) AllReadyH.nil
          go_simp
          have NE : Hid (w3.heap.size ≠ w2.heap.size) := Ne.symm P6.ne
          have P7 := R.new; replace P6 := P6.old (.cells #[.int .u32 0] 98); replace R := R.alloc (.cells #[.int .u32 0] 98)
          refine hK.out _ _ R.S (fun hHeld2 => ?_)
          clear hK K hHeld; have hHeld := hHeld2; clear hHeld2
          try simp only [Act.put, List.getElem_toArray, List.getElem_cons_zero, List.getElem_cons_succ, List.setIfInBounds_toArray, List.set_cons_zero, List.set_cons_succ]
          generalize w3.alloc (.cells #[.int .u32 0] 98) = w4 at *
          refine wpAnyH_ready (rs := [8]) (by kernel_rfl) (by simp) ?_
          refine AllReadyH.cons rfl (fun K hK => ?_) AllReadyH.nil
          go_simp
          refine (HBH.out _ R.B).mono ?_
          rintro e w5 ⟨j, rfl, hj, bq⟩
          replace R := R.call bq; replace P6 := P6.call bq; replace P7 := P7.call bq
          refine hK.out _ _ R.S (fun hHeld2 => ?_)
          clear bq; clear hK K hHeld; have hHeld := hHeld2; clear hHeld2
          try simp only [Act.put, List.getElem_toArray, List.getElem_cons_zero, List.getElem_cons_succ, List.setIfInBounds_toArray, List.set_cons_zero, List.set_cons_succ]
          refine wpAnyH_ready (rs := [9]) (by kernel_rfl) (by simp) ?_
          refine AllReadyH.cons rfl (fun K hK => ?_) AllReadyH.nil
          go_simp
          refine (HK4.out _ j hj R.B).mono ?_
          rintro e w6 ⟨rfl, bq⟩
          replace R := R.call bq; replace P6 := P6.call bq; replace P7 := P7.call bq
          refine hK.out _ _ R.S (fun hHeld2 => ?_)
          clear bq; clear hK K hHeld; have hHeld := hHeld2; clear hHeld2
          try simp only [Act.put, List.getElem_toArray, List.getElem_cons_zero, List.getElem_cons_succ, List.setIfInBounds_toArray, List.set_cons_zero, List.set_cons_succ]
          have k0 := P6.cell; have f0 := P6.frozen
          refine wpAnyH_ready (rs := [12]) (by kernel_rfl) (by simp) (AllReadyH.cons rfl (fun K hK => ?_) AllReadyH.nil)
          try simp only [Act.put, List.getElem_toArray, List.getElem_cons_zero, List.getElem_cons_succ, List.setIfInBounds_toArray, List.set_cons_zero, List.set_cons_succ]
          go_simp
          replace R := R.set P6.ge (.int .u32 y); replace P7 := P7.other (x := .int .u32 y) NE.out; replace P6 := P6.same (.int .u32 y)
          refine hK.out _ _ R.S (fun hHeld2 => ?_)
          clear hK K hHeld; have hHeld := hHeld2; clear hHeld2
          try simp only [Act.put, List.getElem_toArray, List.getElem_cons_zero, List.getElem_cons_succ, List.setIfInBounds_toArray, List.set_cons_zero, List.set_cons_succ]
          clear k0 f0
          generalize w6.setCell ⟨w2.heap.size, 0, none⟩ (.int .u32 y) = w7 at *
          have k0 := P7.cell; have f0 := P7.frozen
          refine wpAnyH_ready (rs := [13]) (by kernel_rfl) (by simp) (AllReadyH.cons rfl (fun K hK => ?_) AllReadyH.nil)
          try simp only [Act.put, List.getElem_toArray, List.getElem_cons_zero, List.getElem_cons_succ, List.setIfInBounds_toArray, List.set_cons_zero, List.set_cons_succ]
          go_simp
          replace R := R.set P7.ge (.int .u32 b2); replace P6 := P6.other (x := .int .u32 b2) (Ne.symm NE.out); replace P7 := P7.same (.int .u32 b2)
          refine hK.out _ _ R.S (fun hHeld2 => ?_)
          clear hK K hHeld; have hHeld := hHeld2; clear hHeld2
          try simp only [Act.put, List.getElem_toArray, List.getElem_cons_zero, List.getElem_cons_succ, List.setIfInBounds_toArray, List.set_cons_zero, List.set_cons_succ]
          clear k0 f0
          generalize w7.setCell ⟨w3.heap.size, 0, none⟩ (.int .u32 b2) = w8 at *
          exact wpAnyH_done (by kernel_rfl) (NoPanic.normal ⟨rfl, (w2.heap.size, w3.heap.size, j), rfl, R.B, R.D, P6.hp, P7.hp⟩) _
        refine AllReadyH.cons rfl (fun K hK => ?_) AllReadyH.nil
        go_simp
        have P7 := R.new; replace R := R.alloc (.cells #[.int .u32 0] 98)
        refine hK.out _ _ R.S (fun hHeld2 => ?_)
        clear hK K hHeld; have hHeld := hHeld2; clear hHeld2
        try simp only [Act.put, List.getElem_toArray, List.getElem_cons_zero, List.getElem_cons_succ, List.setIfInBounds_toArray, List.set_cons_zero, List.set_cons_succ]
        generalize w2.alloc (.cells #[.int .u32 0] 98) = w3 at *
        refine wpAnyH_ready (rs := [8, 10]) (by kernel_rfl) (by simp) ?_
        refine AllReadyH.cons rfl (fun K hK => ?_) ?_
        · go_simp
          refine (HBH.out _ R.B).mono ?_
          rintro e w4 ⟨j, rfl, hj, bq⟩
          replace R := R.call bq; replace P7 := P7.call bq
          refine hK.out _ _ R.S (fun hHeld2 => ?_)
          clear bq; clear hK K hHeld; have hHeld := hHeld2; clear hHeld2
          try simp only [Act.put, List.getElem_toArray, List.getElem_cons_zero, List.getElem_cons_succ, List.setIfInBounds_toArray, List.set_cons_zero, List.set_cons_succ]
          refine wpAnyH_ready (rs := [9, 10]) (by kernel_rfl) (by simp) ?_
          refine AllReadyH.cons rfl (fun K hK => ?_) ?_
          · go_simp
            refine (HK4.out _ j hj R.B).mono ?_
            rintro e w5 ⟨rfl, bq⟩
            replace R := R.call bq; replace P7 := P7.call bq
            refine hK.out _ _ R.S (fun hHeld2 => ?_)
            clear bq; clear hK K hHeld; have hHeld := hHeld2; clear hHeld2
            try simp only [Act.put, List.getElem_toArray, List.getElem_cons_zero, List.getElem_cons_succ, List.setIfInBounds_toArray, List.set_cons_zero, List.set_cons_succ]
            refine wpAnyH_ready (rs := [10]) (by kernel_rfl) (by simp) ?_
            refine AllReadyH.cons rfl (fun K hK => ?_) AllReadyH.nil
            go_simp
            have NE : Hid (w2.heap.size ≠ w5.heap.size) := P7.ne
            have P6 := R.new; replace P7 := P7.old (.cells #[.int .u32 0] 98); replace R := R.alloc (.cells #[.int .u32 0] 98)
            refine hK.out _ _ R.S (fun hHeld2 => ?_)
            clear hK K hHeld; have hHeld := hHeld2; clear hHeld2
            try simp only [Act.put, List.getElem_toArray, List.getElem_cons_zero, List.getElem_cons_succ, List.setIfInBounds_toArray, List.set_cons_zero, List.set_cons_succ]
            generalize w5.alloc (.cells #[.int .u32 0] 98) = w6 at *
            have k0 := P6.cell; have f0 := P6.frozen
            refine wpAnyH_ready (rs := [12]) (by kernel_rfl) (by simp) (AllReadyH.cons rfl (fun K hK => ?_) AllReadyH.nil)
            try simp only [Act.put, List.getElem_toArray, List.getElem_cons_zero, List.getElem_cons_succ, List.setIfInBounds_toArray, List.set_cons_zero, List.set_cons_succ]
            go_simp
            replace R := R.set P6.ge (.int .u32 y); replace P7 := P7.other (x := .int .u32 y) NE.out; replace P6 := P6.same (.int .u32 y)
            refine hK.out _ _ R.S (fun hHeld2 => ?_)
            clear hK K hHeld; have hHeld := hHeld2; clear hHeld2
            try simp only [Act.put, List.getElem_toArray, List.getElem_cons_zero, List.getElem_cons_succ, List.setIfInBounds_toArray, List.set_cons_zero, List.set_cons_succ]
            clear k0 f0
            generalize w6.setCell ⟨w5.heap.size, 0, none⟩ (.int .u32 y) = w7 at *
            have k0 := P7.cell; have f0 := P7.frozen
            refine wpAnyH_ready (rs := [13]) (by kernel_rfl) (by simp) (AllReadyH.cons rfl (fun K hK => ?_) AllReadyH.nil)
            try simp only [Act.put, List.getElem_toArray, List.getElem_cons_zero, List.getElem_cons_succ, List.setIfInBounds_toArray, List.set_cons_zero, List.set_cons_succ]
            go_simp
            replace R := R.set P7.ge (.int .u32 b2); replace P6 := P6.other (x := .int .u32 b2) (Ne.symm NE.out); replace P7 := P7.same (.int .u32 b2)
            refine hK.out _ _ R.S (fun hHeld2 => ?_)
            clear hK K hHeld; have hHeld := hHeld2; clear hHeld2
            try simp only [Act.put, List.getElem_toArray, List.getElem_cons_zero, List.getElem_cons_succ, List.setIfInBounds_toArray, List.set_cons_zero, List.set_cons_succ]
            clear k0 f0
            generalize w7.setCell ⟨w2.heap.size, 0, none⟩ (.int .u32 b2) = w8 at *
            exact wpAnyH_done (by kernel_rfl) (NoPanic.normal ⟨rfl, (w5.heap.size, w2.heap.size, j), rfl, R.B, R.D, P6.hp, P7.hp⟩) _
          refine AllReadyH.cons rfl (fun K hK => ?_) AllReadyH.nil
          go_simp
          have NE : Hid (w2.heap.size ≠ w4.heap.size) := P7.ne
          have P6 := R.new; replace P7 := P7.old (.cells #[.int .u32 0] 98); replace R := R.alloc (.cells #[.int .u32 0] 98)
          refine hK.out _ _ R.S (fun hHeld2 => ?_)
          clear hK K hHeld; have hHeld := hHeld2; clear hHeld2
          try simp only [Act.put, List.getElem_toArray, List.getElem_cons_zero, List.getElem_cons_succ, List.setIfInBounds_toArray, List.set_cons_zero, List.set_cons_succ]
          generalize w4.alloc (.cells #[.int .u32 0] 98) = w5 at *
          refine wpAnyH_ready (rs := [9]) (by kernel_rfl) (by simp) ?_
          refine AllReadyH.cons rfl (fun K hK => ?_) AllReadyH.nil
          go_simp
          refine (HK4.out _ j hj R.B).mono ?_
          rintro e w6 ⟨rfl, bq⟩
          replace R := R.call bq; replace P6 := P6.call bq; replace P7 := P7.call bq
          refine hK.out _ _ R.S (fun hHeld2 => ?_)
          clear bq; clear hK K hHeld; have hHeld := hHeld2; clear hHeld2
          try simp only [Act.put, List.getElem_toArray, List.getElem_cons_zero, List.getElem_cons_succ, List.setIfInBounds_toArray, List.set_cons_zero, List.set_cons_succ]
          have k0 := P6.cell; have f0 := P6.frozen
          refine wpAnyH_ready (rs := [12]) (by kernel_rfl) (by simp) (AllReadyH.cons rfl (fun K hK => ?_) AllReadyH.nil)
          try simp only [Act.put, List.getElem_toArray, List.getElem_cons_zero, List.getElem_cons_succ, List.setIfInBounds_toArray, List.set_cons_zero, List.set_cons_succ]
          go_simp
          replace R := R.set P6.ge (.int .u32 y); replace P7 := P7.other (x := .int .u32 y) NE.out; replace P6 := P6.same (.int .u32 y)
          refine hK.out _ _ R.S (fun hHeld2 => ?_)
          clear hK K hHeld; have hHeld := hHeld2; clear hHeld2
          try simp only [Act.put, List.getElem_toArray, List.getElem_cons_zero, List.getElem_cons_succ, List.setIfInBounds_toArray, List.set_cons_zero, List.set_cons_succ]
          clear k0 f0
          generalize w6.setCell ⟨w4.heap.size, 0, none⟩ (.int .u32 y) = w7 at *
          have k0 := P7.cell; have f0 := P7.frozen
          refine wpAnyH_ready (rs := [13]) (by kernel_rfl) (by simp) (AllReadyH.cons rfl (fun K hK => ?_) AllReadyH.nil)
          try simp only [Act.put, List.getElem_toArray, List.getElem_cons_zero, List.getElem_cons_succ, List.setIfInBounds_toArray, List.set_cons_zero, List.set_cons_succ]
          go_simp
          replace R := R.set P7.ge (.int .u32 b2); replace P6 := P6.other (x := .int .u32 b2) (Ne.symm NE.out); replace P7 := P7.same (.int .u32 b2)
          refine hK.out _ _ R.S (fun hHeld2 => ?_)
          clear hK K hHeld; have hHeld := hHeld2; clear hHeld2
          try simp only [Act.put, List.getElem_toArray, List.getElem_cons_zero, List.getElem_cons_succ, List.setIfInBounds_toArray, List.set_cons_zero, List.set_cons_succ]
          clear k0 f0
          generalize w7.setCell ⟨w2.heap.size, 0, none⟩ (.int .u32 b2) = w8 at *
          exact wpAnyH_done (by kernel_rfl) (NoPanic.normal ⟨rfl, (w4.heap.size, w2.heap.size, j), rfl, R.B, R.D, P6.hp, P7.hp⟩) _
        refine AllReadyH.cons rfl (fun K hK => ?_) AllReadyH.nil
        go_simp
        have NE : Hid (w2.heap.size ≠ w3.heap.size) := P7.ne
        have P6 := R.new; replace P7 := P7.old (.cells #[.int .u32 0] 98); replace R := R.alloc (.cells #[.int .u32 0] 98)
        refine hK.out _ _ R.S (fun hHeld2 => ?_)
        clear hK K hHeld; have hHeld := hHeld2; clear hHeld2
        try simp only [Act.put, List.getElem_toArray, List.getElem_cons_zero, List.getElem_cons_succ, List.setIfInBounds_toArray, List.set_cons_zero, List.set_cons_succ]
        generalize w3.alloc (.cells #[.int .u32 0] 98) = w4 at *
        refine wpAnyH_ready (rs := [8]) (by kernel_rfl) (by simp) ?_
        refine AllReadyH.cons rfl (fun K hK => ?_) AllReadyH.nil
        go_simp
        refine (HBH.out _ R.B).mono ?_
        rintro e w5 ⟨j, rfl, hj, bq⟩
        replace R := R.call bq; replace P6 := P6.call bq; replace P7 := P7.call bq
        refine hK.out _ _ R.S (fun hHeld2 => ?_)
        clear bq; clear hK K hHeld; have hHeld := hHeld2; clear hHeld2
        try simp only [Act.put, List.getElem_toArray, List.getElem_cons_zero, List.getElem_cons_succ, List.setIfInBounds_toArray, List.set_cons_zero, List.set_cons_succ]
        refine wpAnyH_ready (rs := [9]) (by kernel_rfl) (by simp) ?_
        refine AllReadyH.cons rfl (fun K hK => ?_) AllReadyH.nil
        go_simp
        refine (HK4.out _ j hj R.B).mono ?_
        rintro e w6 ⟨rfl, bq⟩
        replace R := R.call bq; replace P6 := P6.call bq; replace P7 := P7.call bq
        refine hK.out _ _ R.S (fun hHeld2 => ?_)
        clear bq; clear hK K hHeld; have hHeld := hHeld2; clear hHeld2
        try simp only [Act.put, List.getElem_toArray, List.getElem_cons_zero, List.getElem_cons_succ, List.setIfInBounds_toArray, List.set_cons_zero, List.set_cons_succ]
        have k0 := P6.cell; have f0 := P6.frozen
        refine wpAnyH_ready (rs := [12]) (by kernel_rfl) (by simp) (AllReadyH.cons rfl (fun K hK => ?_) AllReadyH.nil)
        try simp only [Act.put, List.getElem_toArray, List.getElem_cons_zero, List.getElem_cons_succ, List.setIfInBounds_toArray, List.set_cons_zero, List.set_cons_succ]
        go_simp
        replace R := R.set P6.ge (.int .u32 y); replace P7 := P7.other (x := .int .u32 y) NE.out; replace P6 := P6.same (.int .u32 y)
        refine hK.out _ _ R.S (fun hHeld2 => ?_)
        clear hK K hHeld; have hHeld := hHeld2; clear hHeld2
        try simp only [Act.put, List.getElem_toArray, List.getElem_cons_zero, List.getElem_cons_succ, List.setIfInBounds_toArray, List.set_cons_zero, List.set_cons_succ]
        clear k0 f0
        generalize w6.setCell ⟨w3.heap.size, 0, none⟩ (.int .u32 y) = w7 at *
        have k0 := P7.cell; have f0 := P7.frozen
        refine wpAnyH_ready (rs := [13]) (by kernel_rfl) (by simp) (AllReadyH.cons rfl (fun K hK => ?_) AllReadyH.nil)
        try simp only [Act.put, List.getElem_toArray, List.getElem_cons_zero, List.getElem_cons_succ, List.setIfInBounds_toArray, List.set_cons_zero, List.set_cons_succ]
        go_simp
        replace R := R.set P7.ge (.int .u32 b2); replace P6 := P6.other (x := .int .u32 b2) (Ne.symm NE.out); replace P7 := P7.same (.int .u32 b2)
        refine hK.out _ _ R.S (fun hHeld2 => ?_)
        clear hK K hHeld; have hHeld := hHeld2; clear hHeld2
        try simp only [Act.put, List.getElem_toArray, List.getElem_cons_zero, List.getElem_cons_succ, List.setIfInBounds_toArray, List.set_cons_zero, List.set_cons_succ]
        clear k0 f0
        generalize w7.setCell ⟨w2.heap.size, 0, none⟩ (.int .u32 b2) = w8 at *
        exact wpAnyH_done (by kernel_rfl) (NoPanic.normal ⟨rfl, (w3.heap.size, w2.heap.size, j), rfl, R.B, R.D, P6.hp, P7.hp⟩) _
      refine AllReadyH.cons rfl (fun K hK => ?_) ?_
      · go_simp
        have P6 := R.new; replace R := R.alloc (.cells #[.int .u32 0] 98)
        refine hK.out _ _ R.S (fun hHeld2 => ?_)
        clear hK K hHeld; have hHeld := hHeld2; clear hHeld2
        try simp only [Act.put, List.getElem_toArray, List.getElem_cons_zero, List.getElem_cons_succ, List.setIfInBounds_toArray, List.set_cons_zero, List.set_cons_succ]
        generalize w1.alloc (.cells #[.int .u32 0] 98) = w2 at *
        refine wpAnyH_ready (rs := [3, 11]) (by kernel_rfl) (by simp) ?_
        refine AllReadyH.cons rfl (fun K hK => ?_) ?_
        · go_simp
          refine (HK3.out _ R.B).mono ?_
          rintro e w3 ⟨rfl, bq⟩
          replace R := R.call bq; replace P6 := P6.call bq
          refine hK.out _ _ R.S (fun hHeld2 => ?_)
          clear bq; clear hK K hHeld; have hHeld := hHeld2; clear hHeld2
          try simp only [Act.put, List.getElem_toArray, List.getElem_cons_zero, List.getElem_cons_succ, List.setIfInBounds_toArray, List.set_cons_zero, List.set_cons_succ]
          refine wpAnyH_ready (rs := [8, 11]) (by kernel_rfl) (by simp) ?_
          refine AllReadyH.cons rfl (fun K hK => ?_) ?_
          · go_simp
            refine (HBH.out _ R.B).mono ?_
            rintro e w4 ⟨j, rfl, hj, bq⟩
            replace R := R.call bq; replace P6 := P6.call bq
            refine hK.out _ _ R.S (fun hHeld2 => ?_)
            clear bq; clear hK K hHeld; have hHeld := hHeld2; clear hHeld2
            try simp only [Act.put, List.getElem_toArray, List.getElem_cons_zero, List.getElem_cons_succ, List.setIfInBounds_toArray, List.set_cons_zero, List.set_cons_succ]
            refine wpAnyH_ready (rs := [9, 11]) (by kernel_rfl) (by simp) ?_
            refine AllReadyH.cons rfl (fun K hK => ?_) ?_
            · go_simp
              refine (HK4.out _ j hj R.B).mono ?_
              rintro e w5 ⟨rfl, bq⟩
              replace R := R.call bq; replace P6 := P6.call bq
              refine hK.out _ _ R.S (fun hHeld2 => ?_)
              clear bq; clear hK K hHeld; have hHeld := hHeld2; clear hHeld2
              try simp only [Act.put, List.getElem_toArray, List.getElem_cons_zero, List.getElem_cons_succ, List.setIfInBounds_toArray, List.set_cons_zero, List.set_cons_succ]
              refine wpAnyH_ready (rs := [11]) (by kernel_rfl) (by simp) ?_
              refine AllReadyH.cons rfl (fun K hK => ?_) AllReadyH.nil
              go_simp
              have NE : Hid (w5.heap.size ≠ w1.heap.size) := Ne.symm P6.ne
              have P7 := R.new; replace P6 := P6.old (.cells #[.int .u32 0] 98); replace R := R.alloc (.cells #[.int .u32 0] 98)
              refine hK.out _ _ R.S (fun hHeld2 => ?_)
              clear hK K hHeld; have hHeld := hHeld2; clear hHeld2
              try simp only [Act.put, List.getElem_toArray, List.getElem_cons_zero, List.getElem_cons_succ, List.setIfInBounds_toArray, List.set_cons_zero, List.set_cons_succ]
              generalize w5.alloc (.cells #[.int .u32 0] 98) = w6 at *
              have k0 := P6.cell; have f0 := P6.frozen
              refine wpAnyH_ready (rs := [12]) (by kernel_rfl) (by simp) (AllReadyH.cons rfl (fun K hK => ?_) AllReadyH.nil)
              try simp only [Act.put, List.getElem_toArray, List.getElem_cons_zero, List.getElem_cons_succ, List.setIfInBounds_toArray, List.set_cons_zero, List.set_cons_succ]
              go_simp
              replace R := R.set P6.ge (.int .u32 y); replace P7 := P7.other (x := .int .u32 y) NE.out; replace P6 := P6.same (.int .u32 y)
              refine hK.out _ _ R.S (fun hHeld2 => ?_)
              clear hK K hHeld; have hHeld := hHeld2; clear hHeld2
              try simp only [Act.put, List.getElem_toArray, List.getElem_cons_zero, List.getElem_cons_succ, List.setIfInBounds_toArray, List.set_cons_zero, List.set_cons_succ]
              clear k0 f0
              generalize w6.setCell ⟨w1.heap.size, 0, none⟩ (.int .u32 y) = w7 at *
              have k0 := P7.cell; have f0 := P7.frozen
              refine wpAnyH_ready (rs := [13]) (by kernel_rfl) (by simp) (AllReadyH.cons rfl (fun K hK => ?_) AllReadyH.nil)
              try simp only [Act.put, List.getElem_toArray, List.getElem_cons_zero, List.getElem_cons_succ, List.setIfInBounds_toArray, List.set_cons_zero, List.set_cons_succ]
              go_simp
              replace R := R.set P7.ge (.int .u32 b2); replace P6 := P6.other (x := .int .u32 b2) (Ne.symm NE.out); replace P7 := P7.same (.int .u32 b2)
              refine hK.out _ _ R.S (fun hHeld2 => ?_)
              clear hK K hHeld; have hHeld := hHeld2; clear hHeld2
              try simp only [Act.put, List.getElem_toArray, List.getElem_cons_zero, List.getElem_cons_succ, List.setIfInBounds_toArray, List.set_cons_zero, List.set_cons_succ]
              clear k0 f0
              generalize w7.setCell ⟨w5.heap.size, 0, none⟩ (.int .u32 b2) = w8 at *
              exact wpAnyH_done (by kernel_rfl) (NoPanic.normal ⟨rfl, (w1.heap.size, w5.heap.size, j), rfl, R.B, R.D, P6.hp, P7.hp⟩) _
            refine AllReadyH.cons rfl (fun K hK => ?_) AllReadyH.nil
            go_simp
            have NE : Hid (w4.heap.size ≠ w1.heap.size) := Ne.symm P6.ne
            have P7 := R.new; replace P6 := P6.old (.cells #[.int .u32 0] 98); replace R := R.alloc (.cells #[.int .u32 0] 98)
            refine hK.out _ _ R.S (fun hHeld2 => ?_)
            clear hK K hHeld; have hHeld := hHeld2; clear hHeld2
            try simp only [Act.put, List.getElem_toArray, List.getElem_cons_zero, List.getElem_cons_succ, List.setIfInBounds_toArray, List.set_cons_zero, List.set_cons_succ]
            generalize w4.alloc (.cells #[.int .u32 0] 98) = w5 at *
            refine wpAnyH_ready (rs := [9]) (by kernel_rfl) (by simp) ?_
            refine AllReadyH.cons rfl (fun K hK => ?_) AllReadyH.nil
            go_simp
            refine (HK4.out _ j hj R.B).mono ?_
            rintro e w6 ⟨rfl, bq⟩
            replace R := R.call bq; replace P6 := P6.call bq; replace P7 := P7.call bq
            refine hK.out _ _ R.S (fun hHeld2 => ?_)
            clear bq; clear hK K hHeld; have hHeld := hHeld2; clear hHeld2
            try simp only [Act.put, List.getElem_toArray, List.getElem_cons_zero, List.getElem_cons_succ, List.setIfInBounds_toArray, List.set_cons_zero, List.set_cons_succ]
            have k0 := P6.cell; have f0 := P6.frozen
            refine wpAnyH_ready (rs := [12]) (by kernel_rfl) (by simp) (AllReadyH.cons rfl (fun K hK => ?_) AllReadyH.nil)
            try simp only [Act.put, List.getElem_toArray, List.getElem_cons_zero, List.getElem_cons_succ, List.setIfInBounds_toArray, List.set_cons_zero, List.set_cons_succ]
            go_simp
            replace R := R.set P6.ge (.int .u32 y); replace P7 := P7.other (x := .int .u32 y) NE.out; replace P6 := P6.same (.int .u32 y)
            refine hK.out _ _ R.S (fun hHeld2 => ?_)
            clear hK K hHeld; have hHeld := hHeld2; clear hHeld2
            try simp only [Act.put, List.getElem_toArray, List.getElem_cons_zero, List.getElem_cons_succ, List.setIfInBounds_toArray, List.set_cons_zero, List.set_cons_succ]
            clear k0 f0
            generalize w6.setCell ⟨w1.heap.size, 0, none⟩ (.int .u32 y) = w7 at *
            have k0 := P7.cell; have f0 := P7.frozen
            refine wpAnyH_ready (rs := [13]) (by kernel_rfl) (by simp) (AllReadyH.cons rfl (fun K hK => ?_) AllReadyH.nil)
            try simp only [Act.put, List.getElem_toArray, List.getElem_cons_zero, List.getElem_cons_succ, List.setIfInBounds_toArray, List.set_cons_zero, List.set_cons_succ]
            go_simp
            replace R := R.set P7.ge (.int .u32 b2); replace P6 := P6.other (x := .int .u32 b2) (Ne.symm NE.out); replace P7 := P7.same (.int .u32 b2)
            refine hK.out _ _ R.S (fun hHeld2 => ?_)
            clear hK K hHeld; have hHeld := hHeld2; clear hHeld2
            try simp only [Act.put, List.getElem_toArray, List.getElem_cons_zero, List.getElem_cons_succ, List.setIfInBounds_toArray, List.set_cons_zero, List.set_cons_succ]
            clear k0 f0
            generalize w7.setCell ⟨w4.heap.size, 0, none⟩ (.int .u32 b2) = w8 at *
            exact wpAnyH_done (by kernel_rfl) (NoPanic.normal ⟨rfl, (w1.heap.size, w4.heap.size, j), rfl, R.B, R.D, P6.hp, P7.hp⟩) _
          refine AllReadyH.cons rfl (fun K hK => ?_) AllReadyH.nil
          go_simp
          have NE : Hid (w3.heap.size ≠ w1.heap.size) := Ne.symm P6.ne
          have P7 := R.new; replace P6 := P6.old (.cells #[.int .u32 0] 98); replace R := R.alloc (.cells #[.int .u32 0] 98)
          refine hK.out _ _ R.S (fun hHeld2 => ?_)
          clear hK K hHeld; have hHeld := hHeld2; clear hHeld2
          try simp only [Act.put, List.getElem_toArray, List.getElem_cons_zero, List.getElem_cons_succ, List.setIfInBounds_toArray, List.set_cons_zero, List.set_cons_succ]
          generalize w3.alloc (.cells #[.int .u32 0] 98) = w4 at *
          refine wpAnyH_ready (rs := [8]) (by kernel_rfl) (by simp) ?_
          refine AllReadyH.cons rfl (fun K hK => ?_) AllReadyH.nil
          go_simp
          refine (HBH.out _ R.B).mono ?_
          rintro e w5 ⟨j, rfl, hj, bq⟩
          replace R := R.call bq; replace P6 := P6.call bq; replace P7 := P7.call bq
          refine hK.out _ _ R.S (fun hHeld2 => ?_)
          clear bq; clear hK K hHeld; have hHeld := hHeld2; clear hHeld2
          try simp only [Act.put, List.getElem_toArray, List.getElem_cons_zero, List.getElem_cons_succ, List.setIfInBounds_toArray, List.set_cons_zero, List.set_cons_succ]
          refine wpAnyH_ready (rs := [9]) (by kernel_rfl) (by simp) ?_
          refine AllReadyH.cons rfl (fun K hK => ?_) AllReadyH.nil
          go_simp
          refine (HK4.out _ j hj R.B).mono ?_
          rintro e w6 ⟨rfl, bq⟩
          replace R := R.call bq; replace P6 := P6.call bq; replace P7 := P7.call bq
          refine hK.out _ _ R.S (fun hHeld2 => ?_)
          clear bq; clear hK K hHeld; have hHeld := hHeld2; clear hHeld2
          try simp only [Act.put, List.getElem_toArray, List.getElem_cons_zero, List.getElem_cons_succ, List.setIfInBounds_toArray, List.set_cons_zero, List.set_cons_succ]
          have k0 := P6.cell; have f0 := P6.frozen
          refine wpAnyH_ready (rs := [12]) (by kernel_rfl) (by simp) (AllReadyH.cons rfl (fun K hK => ?_) AllReadyH.nil)
          try simp only [Act.put, List.getElem_toArray, List.getElem_cons_zero, List.getElem_cons_succ, List.setIfInBounds_toArray, List.set_cons_zero, List.set_cons_succ]
          go_simp
          replace R := R.set P6.ge (.int .u32 y); replace P7 := P7.other (x := .int .u32 y) NE.out; replace P6 := P6.same (.int .u32 y)
          refine hK.out _ _ R.S (fun hHeld2 => ?_)
          clear hK K hHeld; have hHeld := hHeld2; clear hHeld2
          try simp only [Act.put, List.getElem_toArray, List.getElem_cons_zero, List.getElem_cons_succ, List.setIfInBounds_toArray, List.set_cons_zero, List.set_cons_succ]
          clear k0 f0
          generalize w6.setCell ⟨w1.heap.size, 0, none⟩ (.int .u32 y) = w7 at *
          have k0 := P7.cell; have f0 := P7.frozen
          refine wpAnyH_ready (rs := [13]) (by kernel_rfl) (by simp) (AllReadyH.cons rfl (fun K hK => ?_) AllReadyH.nil)
          try simp only [Act.put, List.getElem_toArray, List.getElem_cons_zero, List.getElem_cons_succ, List.setIfInBounds_toArray, List.set_cons_zero, List.set_cons_succ]
          go_simp
          replace R := R.set P7.ge (.int .u32 b2); replace P6 := P6.other (x := .int .u32 b2) (Ne.symm NE.out); replace P7 := P7.same (.int .u32 b2)
          refine hK.out _ _ R.S (fun hHeld2 => ?_)
          clear hK K hHeld; have hHeld := hHeld2; clear hHeld2
          try simp only [Act.put, List.getElem_toArray, List.getElem_cons_zero, List.getElem_cons_succ, List.setIfInBounds_toArray, List.set_cons_zero, List.set_cons_succ]
          clear k0 f0
          generalize w7.setCell ⟨w3.heap.size, 0, none⟩ (.int .u32 b2) = w8 at *
          exact wpAnyH_done (by kernel_rfl) (NoPanic.normal ⟨rfl, (w1.heap.size, w3.heap.size, j), rfl, R.B, R.D, P6.hp, P7.hp⟩) _
        refine AllReadyH.cons rfl (fun K hK => ?_) AllReadyH.nil
        go_simp
        have NE : Hid (w2.heap.size ≠ w1.heap.size) := Ne.symm P6.ne
        have P7 := R.new; replace P6 := P6.old (.cells #[.int .u32 0] 98); replace R := R.alloc (.cells #[.int .u32 0] 98)
        refine hK.out _ _ R.S (fun hHeld2 => ?_)
        clear hK K hHeld; have hHeld := hHeld2; clear hHeld2
        try simp only [Act.put, List.getElem_toArray, List.getElem_cons_zero, List.getElem_cons_succ, List.setIfInBounds_toArray, List.set_cons_zero, List.set_cons_succ]
        generalize w2.alloc (.cells #[.int .u32 0] 98) = w3 at *
        refine wpAnyH_ready (rs := [3]) (by kernel_rfl) (by simp) ?_
        refine AllReadyH.cons rfl (fun K hK => ?_) AllReadyH.nil
        go_simp
        refine (HK3.out _ R.B).mono ?_
        rintro e w4 ⟨rfl, bq⟩
        replace R := R.call bq; replace P6 := P6.call bq; replace P7 := P7.call bq
        refine hK.out _ _ R.S (fun hHeld2 => ?_)
        clear bq; clear hK K hHeld; have hHeld := hHeld2; clear hHeld2
        try simp only [Act.put, List.getElem_toArray, List.getElem_cons_zero, List.getElem_cons_succ, List.setIfInBounds_toArray, List.set_cons_zero, List.set_cons_succ]
        refine wpAnyH_ready (rs := [8]) (by kernel_rfl) (by simp) ?_
        refine AllReadyH.cons rfl (fun K hK => ?_) AllReadyH.nil
        go_simp
        refine (HBH.out _ R.B).mono ?_
        rintro e w5 ⟨j, rfl, hj, bq⟩
        replace R := R.call bq; replace P6 := P6.call bq; replace P7 := P7.call bq
        refine hK.out _ _ R.S (fun hHeld2 => ?_)
        clear bq; clear hK K hHeld; have hHeld := hHeld2; clear hHeld2
        try simp only [Act.put, List.getElem_toArray, List.getElem_cons_zero, List.getElem_cons_succ, List.setIfInBounds_toArray, List.set_cons_zero, List.set_cons_succ]
        refine wpAnyH_ready (rs := [9]) (by kernel_rfl) (by simp) ?_
        refine AllReadyH.cons rfl (fun K hK => ?_) AllReadyH.nil
        go_simp
        refine (HK4.out _ j hj R.B).mono ?_
        rintro e w6 ⟨rfl, bq⟩
        replace R := R.call bq; replace P6 := P6.call bq; replace P7 := P7.call bq
        refine hK.out _ _ R.S (fun hHeld2 => ?_)
        clear bq; clear hK K hHeld; have hHeld := hHeld2; clear hHeld2
        try simp only [Act.put, List.getElem_toArray, List.getElem_cons_zero, List.getElem_cons_succ, List.setIfInBounds_toArray, List.set_cons_zero, List.set_cons_succ]
        have k0 := P6.cell; have f0 := P6.frozen
        refine wpAnyH_ready (rs := [12]) (by kernel_rfl) (by simp) (AllReadyH.cons rfl (fun K hK => ?_) AllReadyH.nil)
        try simp only [Act.put, List.getElem_toArray, List.getElem_cons_zero, List.getElem_cons_succ, List.setIfInBounds_toArray, List.set_cons_zero, List.set_cons_succ]
        go_simp
        replace R := R.set P6.ge (.int .u32 y); replace P7 := P7.other (x := .int .u32 y) NE.out; replace P6 := P6.same (.int .u32 y)
        refine hK.out _ _ R.S (fun hHeld2 => ?_)
        clear hK K hHeld; have hHeld := hHeld2; clear hHeld2
        try simp only [Act.put, List.getElem_toArray, List.getElem_cons_zero, List.getElem_cons_succ, List.setIfInBounds_toArray, List.set_cons_zero, List.set_cons_succ]
        clear k0 f0
        generalize w6.setCell ⟨w1.heap.size, 0, none⟩ (.int .u32 y) = w7 at *
        have k0 := P7.cell; have f0 := P7.frozen
        refine wpAnyH_ready (rs := [13]) (by kernel_rfl) (by simp) (AllReadyH.cons rfl (fun K hK => ?_) AllReadyH.nil)
        try simp only [Act.put, List.getElem_toArray, List.getElem_cons_zero, List.getElem_cons_succ, List.setIfInBounds_toArray, List.set_cons_zero, List.set_cons_succ]
        go_simp
        replace R := R.set P7.ge (.int .u32 b2); replace P6 := P6.other (x := .int .u32 b2) (Ne.symm NE.out); replace P7 := P7.same (.int .u32 b2)
        refine hK.out _ _ R.S (fun hHeld2 => ?_)
        clear hK K hHeld; have hHeld := hHeld2; clear hHeld2
        try simp only [Act.put, List.getElem_toArray, List.getElem_cons_zero, List.getElem_cons_succ, List.setIfInBounds_toArray, List.set_cons_zero, List.set_cons_succ]
        clear k0 f0
        generalize w7.setCell ⟨w2.heap.size, 0, none⟩ (.int .u32 b2) = w8 at *
        exact wpAnyH_done (by kernel_rfl) (NoPanic.normal ⟨rfl, (w1.heap.size, w2.heap.size, j), rfl, R.B, R.D, P6.hp, P7.hp⟩) _
      refine AllReadyH.cons rfl (fun K hK => ?_) AllReadyH.nil
      go_simp
      have P7 := R.new; replace R := R.alloc (.cells #[.int .u32 0] 98)
      refine hK.out _ _ R.S (fun hHeld2 => ?_)
      clear hK K hHeld; have hHeld := hHeld2; clear hHeld2
      try simp only [Act.put, List.getElem_toArray, List.getElem_cons_zero, List.getElem_cons_succ, List.setIfInBounds_toArray, List.set_cons_zero, List.set_cons_succ]
      generalize w1.alloc (.cells #[.int .u32 0] 98) = w2 at *
      refine wpAnyH_ready (rs := [3, 10]) (by kernel_rfl) (by simp) ?_
      refine AllReadyH.cons rfl (fun K hK => ?_) ?_
      · go_simp
        refine (HK3.out _ R.B).mono ?_
        rintro e w3 ⟨rfl, bq⟩
        replace R := R.call bq; replace P7 := P7.call bq
        refine hK.out _ _ R.S (fun hHeld2 => ?_)
        clear bq; clear hK K hHeld; have hHeld := hHeld2; clear hHeld2
        try simp only [Act.put, List.getElem_toArray, List.getElem_cons_zero, List.getElem_cons_succ, List.setIfInBounds_toArray, List.set_cons_zero, List.set_cons_succ]
        refine wpAnyH_ready (rs := [8, 10]) (by kernel_rfl) (by simp) ?_
        refine AllReadyH.cons rfl (fun K hK => ?_) ?_
        · go_simp
          refine (HBH.out _ R.B).mono ?_
          rintro e w4 ⟨j, rfl, hj, bq⟩
          replace R := R.call bq; replace P7 := P7.call bq
          refine hK.out _ _ R.S (fun hHeld2 => ?_)
          clear bq; clear hK K hHeld; have hHeld := hHeld2; clear hHeld2
          try simp only [Act.put, List.getElem_toArray, List.getElem_cons_zero, List.getElem_cons_succ, List.setIfInBounds_toArray, List.set_cons_zero, List.set_cons_succ]
          refine wpAnyH_ready (rs := [9, 10]) (by kernel_rfl) (by simp) ?_
          refine AllReadyH.cons rfl (fun K hK => ?_) ?_
          · go_simp
            refine (HK4.out _ j hj R.B).mono ?_
            rintro e w5 ⟨rfl, bq⟩
            replace R := R.call bq; replace P7 := P7.call bq
            refine hK.out _ _ R.S (fun hHeld2 => ?_)
            clear bq; clear hK K hHeld; have hHeld := hHeld2; clear hHeld2
            try simp only [Act.put, List.getElem_toArray, List.getElem_cons_zero, List.getElem_cons_succ, List.setIfInBounds_toArray, List.set_cons_zero, List.set_cons_succ]
            refine wpAnyH_ready (rs := [10]) (by kernel_rfl) (by simp) ?_
            refine AllReadyH.cons rfl (fun K hK => ?_) AllReadyH.nil
            go_simp
            have NE : Hid (w1.heap.size ≠ w5.heap.size) := P7.ne
            have P6 := R.new; replace P7 := P7.old (.cells #[.int .u32 0] 98); replace R := R.alloc (.cells #[.int .u32 0] 98)
            refine hK.out _ _ R.S (fun hHeld2 => ?_)
            clear hK K hHeld; have hHeld := hHeld2; clear hHeld2
            try simp only [Act.put, List.getElem_toArray, List.getElem_cons_zero, List.getElem_cons_succ, List.setIfInBounds_toArray, List.set_cons_zero, List.set_cons_succ]
            generalize w5.alloc (.cells #[.int .u32 0] 98) = w6 at *
            have k0 := P6.cell; have f0 := P6.frozen
            refine wpAnyH_ready (rs := [12]) (by kernel_rfl) (by simp) (AllReadyH.cons rfl (fun K hK => ?_) AllReadyH.nil)
            try simp only [Act.put, List.getElem_toArray, List.getElem_cons_zero, List.getElem_cons_succ, List.setIfInBounds_toArray, List.set_cons_zero, List.set_cons_succ]
            go_simp
            replace R := R.set P6.ge (.int .u32 y); replace P7 := P7.other (x := .int .u32 y) NE.out; replace P6 := P6.same (.int .u32 y)
            refine hK.out _ _ R.S (fun hHeld2 => ?_)
            clear hK K hHeld; have hHeld := hHeld2; clear hHeld2
            try simp only [Act.put, List.getElem_toArray, List.getElem_cons_zero, List.getElem_cons_succ, List.setIfInBounds_toArray, List.set_cons_zero, List.set_cons_succ]
            clear k0 f0
            generalize w6.setCell ⟨w5.heap.size, 0, none⟩ (.int .u32 y) = w7 at *
            have k0 := P7.cell; have f0 := P7.frozen
            refine wpAnyH_ready (rs := [13]) (by kernel_rfl) (by simp) (AllReadyH.cons rfl (fun K hK => ?_) AllReadyH.nil)
            try simp only [Act.put, List.getElem_toArray, List.getElem_cons_zero, List.getElem_cons_succ, List.setIfInBounds_toArray, List.set_cons_zero, List.set_cons_succ]
            go_simp
            replace R := R.set P7.ge (.int .u32 b2); replace P6 := P6.other (x := .int .u32 b2) (Ne.symm NE.out); replace P7 := P7.same (.int .u32 b2)
            refine hK.out _ _ R.S (fun hHeld2 => ?_)
            clear hK K hHeld; have hHeld := hHeld2; clear hHeld2
            try simp only [Act.put, List.getElem_toArray, List.getElem_cons_zero, List.getElem_cons_succ, List.setIfInBounds_toArray, List.set_cons_zero, List.set_cons_succ]
            clear k0 f0
            generalize w7.setCell ⟨w1.heap.size, 0, none⟩ (.int .u32 b2) = w8 at *
            exact wpAnyH_done (by kernel_rfl) (NoPanic.normal ⟨rfl, (w5.heap.size, w1.heap.size, j), rfl, R.B, R.D, P6.hp, P7.hp⟩) _
          refine AllReadyH.cons rfl (fun K hK => ?_) AllReadyH.nil
          go_simp
          have NE : Hid (w1.heap.size ≠ w4.heap.size) := P7.ne
          have P6 := R.new; replace P7 := P7.old (.cells #[.int .u32 0] 98); replace R := R.alloc (.cells #[.int .u32 0] 98)
          refine hK.out _ _ R.S (fun hHeld2 => ?_)
          clear hK K hHeld; have hHeld := hHeld2; clear hHeld2
          try simp only [Act.put, List.getElem_toArray, List.getElem_cons_zero, List.getElem_cons_succ, List.setIfInBounds_toArray, List.set_cons_zero, List.set_cons_succ]
          generalize w4.alloc (.cells #[.int .u32 0] 98) = w5 at *
          refine wpAnyH_ready (rs := [9]) (by kernel_rfl) (by simp) ?_
          refine AllReadyH.cons rfl (fun K hK => ?_) AllReadyH.nil
          go_simp
          refine (HK4.out _ j hj R.B).mono ?_
          rintro e w6 ⟨rfl, bq⟩
          replace R := R.call bq; replace P6 := P6.call bq; replace P7 := P7.call bq
          refine hK.out _ _ R.S (fun hHeld2 => ?_)
          clear bq; clear hK K hHeld; have hHeld := hHeld2; clear hHeld2
          try simp only [Act.put, List.getElem_toArray, List.getElem_cons_zero, List.getElem_cons_succ, List.setIfInBounds_toArray, List.set_cons_zero, List.set_cons_succ]
          have k0 := P6.cell; have f0 := P6.frozen
          refine wpAnyH_ready (rs := [12]) (by kernel_rfl) (by simp) (AllReadyH.cons rfl (fun K hK => ?_) AllReadyH.nil)
          try simp only [Act.put, List.getElem_toArray, List.getElem_cons_zero, List.getElem_cons_succ, List.setIfInBounds_toArray, List.set_cons_zero, List.set_cons_succ]
          go_simp
          replace R := R.set P6.ge (.int .u32 y); replace P7 := P7.other (x := .int .u32 y) NE.out; replace P6 := P6.same (.int .u32 y)
          refine hK.out _ _ R.S (fun hHeld2 => ?_)
          clear hK K hHeld; have hHeld := hHeld2; clear hHeld2
          try simp only [Act.put, List.getElem_toArray, List.getElem_cons_zero, List.getElem_cons_succ, List.setIfInBounds_toArray, List.set_cons_zero, List.set_cons_succ]
          clear k0 f0
          generalize w6.setCell ⟨w4.heap.size, 0, none⟩ (.int .u32 y) = w7 at *
          have k0 := P7.cell; have f0 := P7.frozen
          refine wpAnyH_ready (rs := [13]) (by kernel_rfl) (by simp) (AllReadyH.cons rfl (fun K hK => ?_) AllReadyH.nil)
          try simp only [Act.put, List.getElem_toArray, List.getElem_cons_zero, List.getElem_cons_succ, List.setIfInBounds_toArray, List.set_cons_zero, List.set_cons_succ]
          go_simp
          replace R := R.set P7.ge (.int .u32 b2); replace P6 := P6.other (x := .int .u32 b2) (Ne.symm NE.out); replace P7 := P7.same (.int .u32 b2)
          refine hK.out _ _ R.S (fun hHeld2 => ?_)
          clear hK K hHeld; have hHeld := hHeld2; clear hHeld2
          try simp only [Act.put, List.getElem_toArray, List.getElem_cons_zero, List.getElem_cons_succ, List.setIfInBounds_toArray, List.set_cons_zero, List.set_cons_succ]
          clear k0 f0
          generalize w7.setCell ⟨w1.heap.size, 0, none⟩ (.int .u32 b2) = w8 at *
          exact wpAnyH_done (by kernel_rfl) (NoPanic.normal ⟨rfl, (w4.heap.size, w1.heap.size, j), rfl, R.B, R.D, P6.hp, P7.hp⟩) _
        refine AllReadyH.cons rfl (fun K hK => ?_) AllReadyH.nil
        go_simp
        have NE : Hid (w1.heap.size ≠ w3.heap.size) := P7.ne
        have P6 := R.new; replace P7 := P7.old (.cells #[.int .u32 0] 98); replace R := R.alloc (.cells #[.int .u32 0] 98)
        refine hK.out _ _ R.S (fun hHeld2 => ?_)
        clear hK K hHeld; have hHeld := hHeld2; clear hHeld2
        try simp only [Act.put, List.getElem_toArray, List.getElem_cons_zero, List.getElem_cons_succ, List.setIfInBounds_toArray, List.set_cons_zero, List.set_cons_succ]
        generalize w3.alloc (.cells #[.int .u32 0] 98) = w4 at *
        refine wpAnyH_ready (rs := [8]) (by kernel_rfl) (by simp) ?_
        refine AllReadyH.cons rfl (fun K hK => ?_) AllReadyH.nil
        go_simp
        refine (HBH.out _ R.B).mono ?_
        rintro e w5 ⟨j, rfl, hj, bq⟩
        replace R := R.call bq; replace P6 := P6.call bq; replace P7 := P7.call bq
        refine hK.out _ _ R.S (fun hHeld2 => ?_)
        clear bq; clear hK K hHeld; have hHeld := hHeld2; clear hHeld2
        try simp only [Act.put, List.getElem_toArray, List.getElem_cons_zero, List.getElem_cons_succ, List.setIfInBounds_toArray, List.set_cons_zero, List.set_cons_succ]
        refine wpAnyH_ready (rs := [9]) (by kernel_rfl) (by simp) ?_
        refine AllReadyH.cons rfl (fun K hK => ?_) AllReadyH.nil
        go_simp
        refine (HK4.out _ j hj R.B).mono ?_
        rintro e w6 ⟨rfl, bq⟩
        replace R := R.call bq; replace P6 := P6.call bq; replace P7 := P7.call bq
        refine hK.out _ _ R.S (fun hHeld2 => ?_)
        clear bq; clear hK K hHeld; have hHeld := hHeld2; clear hHeld2
        try simp only [Act.put, List.getElem_toArray, List.getElem_cons_zero, List.getElem_cons_succ, List.setIfInBounds_toArray, List.set_cons_zero, List.set_cons_succ]
        have k0 := P6.cell; have f0 := P6.frozen
        refine wpAnyH_ready (rs := [12]) (by kernel_rfl) (by simp) (AllReadyH.cons rfl (fun K hK => ?_) AllReadyH.nil)
        try simp only [Act.put, List.getElem_toArray, List.getElem_cons_zero, List.getElem_cons_succ, List.setIfInBounds_toArray, List.set_cons_zero, List.set_cons_succ]
        go_simp
        replace R := R.set P6.ge (.int .u32 y); replace P7 := P7.other (x := .int .u32 y) NE.out; replace P6 := P6.same (.int .u32 y)
        refine hK.out _ _ R.S (fun hHeld2 => ?_)
        clear hK K hHeld; have hHeld := hHeld2; clear hHeld2
        try simp only [Act.put, List.getElem_toArray, List.getElem_cons_zero, List.getElem_cons_succ, List.setIfInBounds_toArray, List.set_cons_zero, List.set_cons_succ]
        clear k0 f0
        generalize w6.setCell ⟨w3.heap.size, 0, none⟩ (.int .u32 y) = w7 at *
        have k0 := P7.cell; have f0 := P7.frozen
        refine wpAnyH_ready (rs := [13]) (by kernel_rfl) (by simp) (AllReadyH.cons rfl (fun K hK => ?_) AllReadyH.nil)
        try simp only [Act.put, List.getElem_toArray, List.getElem_cons_zero, List.getElem_cons_succ, List.setIfInBounds_toArray, List.set_cons_zero, List.set_cons_succ]
        go_simp
        replace R := R.set P7.ge (.int .u32 b2); replace P6 := P6.other (x := .int .u32 b2) (Ne.symm NE.out); replace P7 := P7.same (.int .u32 b2)
        refine hK.out _ _ R.S (fun hHeld2 => ?_)
        clear hK K hHeld; have hHeld := hHeld2; clear hHeld2
        try simp only [Act.put, List.getElem_toArray, List.getElem_cons_zero, List.getElem_cons_succ, List.setIfInBounds_toArray, List.set_cons_zero, List.set_cons_succ]
        clear k0 f0
        generalize w7.setCell ⟨w1.heap.size, 0, none⟩ (.int .u32 b2) = w8 at *
        exact wpAnyH_done (by kernel_rfl) (NoPanic.normal ⟨rfl, (w3.heap.size, w1.heap.size, j), rfl, R.B, R.D, P6.hp, P7.hp⟩) _
      refine AllReadyH.cons rfl (fun K hK => ?_) AllReadyH.nil
      go_simp
      have NE : Hid (w1.heap.size ≠ w2.heap.size) := P7.ne
      have P6 := R.new; replace P7 := P7.old (.cells #[.int .u32 0] 98); replace R := R.alloc (.cells #[.int .u32 0] 98)
      refine hK.out _ _ R.S (fun hHeld2 => ?_)
      clear hK K hHeld; have hHeld := hHeld2; clear hHeld2
      try simp only [Act.put, List.getElem_toArray, List.getElem_cons_zero, List.getElem_cons_succ, List.setIfInBounds_toArray, List.set_cons_zero, List.set_cons_succ]
      generalize w2.alloc (.cells #[.int .u32 0] 98) = w3 at *
      refine wpAnyH_ready (rs := [3]) (by kernel_rfl) (by simp) ?_
      refine AllReadyH.cons rfl (fun K hK => ?_) AllReadyH.nil
      go_simp
      refine (HK3.out _ R.B).mono ?_
      rintro e w4 ⟨rfl, bq⟩
      replace R := R.call bq; replace P6 := P6.call bq; replace P7 := P7.call bq
      refine hK.out _ _ R.S (fun hHeld2 => ?_)
      clear bq; clear hK K hHeld; have hHeld := hHeld2; clear hHeld2
      try simp only [Act.put, List.getElem_toArray, List.getElem_cons_zero, List.getElem_cons_succ, List.setIfInBounds_toArray, List.set_cons_zero, List.set_cons_succ]
      refine wpAnyH_ready (rs := [8]) (by kernel_rfl) (by simp) ?_
      refine AllReadyH.cons rfl (fun K hK => ?_) AllReadyH.nil
      go_simp
      refine (HBH.out _ R.B).mono ?_
      rintro e w5 ⟨j, rfl, hj, bq⟩
      replace R := R.call bq; replace P6 := P6.call bq; replace P7 := P7.call bq
      refine hK.out _ _ R.S (fun hHeld2 => ?_)
      clear bq; clear hK K hHeld; have hHeld := hHeld2; clear hHeld2
      try simp only [Act.put, List.getElem_toArray, List.getElem_cons_zero, List.getElem_cons_succ, List.setIfInBounds_toArray, List.set_cons_zero, List.set_cons_succ]
      refine wpAnyH_ready (rs := [9]) (by kernel_rfl) (by simp) ?_
      refine AllReadyH.cons rfl (fun K hK => ?_) AllReadyH.nil
      go_simp
      refine (HK4.out _ j hj R.B).mono ?_
      rintro e w6 ⟨rfl, bq⟩
      replace R := R.call bq; replace P6 := P6.call bq; replace P7 := P7.call bq
      refine hK.out _ _ R.S (fun hHeld2 => ?_)
      clear bq; clear hK K hHeld; have hHeld := hHeld2; clear hHeld2
      try simp only [Act.put, List.getElem_toArray, List.getElem_cons_zero, List.getElem_cons_succ, List.setIfInBounds_toArray, List.set_cons_zero, List.set_cons_succ]
      have k0 := P6.cell; have f0 := P6.frozen
      refine wpAnyH_ready (rs := [12]) (by kernel_rfl) (by simp) (AllReadyH.cons rfl (fun K hK => ?_) AllReadyH.nil)
      try simp only [Act.put, List.getElem_toArray, List.getElem_cons_zero, List.getElem_cons_succ, List.setIfInBounds_toArray, List.set_cons_zero, List.set_cons_succ]
      go_simp
      replace R := R.set P6.ge (.int .u32 y); replace P7 := P7.other (x := .int .u32 y) NE.out; replace P6 := P6.same (.int .u32 y)
      refine hK.out _ _ R.S (fun hHeld2 => ?_)
      clear hK K hHeld; have hHeld := hHeld2; clear hHeld2
      try simp only [Act.put, List.getElem_toArray, List.getElem_cons_zero, List.getElem_cons_succ, List.setIfInBounds_toArray, List.set_cons_zero, List.set_cons_succ]
      clear k0 f0
      generalize w6.setCell ⟨w2.heap.size, 0, none⟩ (.int .u32 y) = w7 at *
      have k0 := P7.cell; have f0 := P7.frozen
      refine wpAnyH_ready (rs := [13]) (by kernel_rfl) (by simp) (AllReadyH.cons rfl (fun K hK => ?_) AllReadyH.nil)
      try simp only [Act.put, List.getElem_toArray, List.getElem_cons_zero, List.getElem_cons_succ, List.setIfInBounds_toArray, List.set_cons_zero, List.set_cons_succ]
      go_simp
      replace R := R.set P7.ge (.int .u32 b2); replace P6 := P6.other (x := .int .u32 b2) (Ne.symm NE.out); replace P7 := P7.same (.int .u32 b2)
      refine hK.out _ _ R.S (fun hHeld2 => ?_)
      clear hK K hHeld; have hHeld := hHeld2; clear hHeld2
      try simp only [Act.put, List.getElem_toArray, List.getElem_cons_zero, List.getElem_cons_succ, List.setIfInBounds_toArray, List.set_cons_zero, List.set_cons_succ]
      clear k0 f0
      generalize w7.setCell ⟨w1.heap.size, 0, none⟩ (.int .u32 b2) = w8 at *
      exact wpAnyH_done (by kernel_rfl) (NoPanic.normal ⟨rfl, (w2.heap.size, w1.heap.size, j), rfl, R.B, R.D, P6.hp, P7.hp⟩) _
    · rintro ⟨p6, p7, j7⟩ wc ⟨Bc, Dc, h6, h7⟩
      simp only [Act.put, List.setIfInBounds_toArray, List.set_cons_zero, List.set_cons_succ]
      have hsc : w.heap.size ≤ wc.heap.size := Bc.size
      have h4 := (Dc.block p4 (Array.getElem?_eq_some_iff.1 H4.out).1).trans H4.out
      have h5 := (Dc.block p5 (Array.getElem?_eq_some_iff.1 H5.out).1).trans H5.out
      have g0 := cell_below Dc f0
      have g1 := cell_below Dc f1
      have g2 := cell_below Dc f2
      clear f0 f1 f2 H4 H5 Dc HBb hsb HBH HK4 HK3
      have hp8 := set1_same (World.alloc_heap_new wc (.cells #[.nilFunc] 101)) (.func (.func 69) #[] #[.pointer (some ⟨p5, 0, none⟩), .pointer (some ⟨p6, 0, none⟩)])
      have Bd : Below wc.heap.size wc ((wc.alloc (.cells #[.nilFunc] 101)).setCell ⟨wc.heap.size, 0, none⟩ (.func (.func 69) #[] #[.pointer (some ⟨p5, 0, none⟩), .pointer (some ⟨p6, 0, none⟩)])) := ((Below.refl _ wc).alloc (Nat.le_refl _) _).setCell (Nat.le_refl _) _
      generalize hWd : (wc.alloc (.cells #[.nilFunc] 101)).setCell ⟨wc.heap.size, 0, none⟩ (.func (.func 69) #[] #[.pointer (some ⟨p5, 0, none⟩), .pointer (some ⟨p6, 0, none⟩)]) = W at *
      have c4 := cell_of_row W p4 0 _ _ _ ((Bd.block p4 (Array.getElem?_eq_some_iff.1 h4).1).trans h4)
      have c5 := cell_of_row W p5 0 _ _ _ ((Bd.block p5 (Array.getElem?_eq_some_iff.1 h5).1).trans h5)
      have c6 := cell_of_row W p6 0 _ _ _ ((Bd.block p6 (Array.getElem?_eq_some_iff.1 h6).1).trans h6)
      have c7 := cell_of_row W p7 0 _ _ _ ((Bd.block p7 (Array.getElem?_eq_some_iff.1 h7).1).trans h7)
      have c8 := cell_of_row W wc.heap.size 0 _ _ _ hp8
      simp at c4 c5 c6 c7 c8
      have HPR : Hid (∀ A B, Calls Tryz.prog 69 #[.int .u32 A, .int .u32 B, .pointer (some ⟨p5, 0, none⟩), .pointer (some ⟨p6, 0, none⟩)] W fun e w' => e = .returned (.bool (inB x A && inB y B)) ∧ w' = W) := fun A B => pair_any A B x y p5 p6 W c5 c6
      have HBR : Hid (∀ S M, Calls Tryz.prog 70 #[.int .u32 S, .int .u32 M, .pointer (some ⟨wc.heap.size, 0, none⟩), .pointer (some ⟨p7, 0, none⟩), .pointer (some ⟨p4, 0, none⟩)] W fun e w' => e = .returned (.bool ((inB x S && inB y M && inB b2 S) || (inB a2 S && (inB x M && inB y S)))) ∧ w' = W) := fun S M => bridge_any S M x y a2 b2 p4 p5 p6 p7 wc.heap.size W c4 c5 c6 c7 c8
      have HBW : Hid (Below w.heap.size w W) := Bc.trans (Bd.mono Bc.size)
      have m0 := cell_below Bd g0
      have m1 := cell_below Bd g1
      have m2 := cell_below Bd g2
      clear g0 g1 g2 c4 c5 c6 c7 h4 h5 h6 h7 hp8 Bc Bd
      cases X0 with
      | true =>
        have C := HPR.out 1536 1536
        rw [q0.out] at C
        clear q0
        go_wp2_with fail
        try rw [hWd]
        clear hWd
        refine C.mono ?_
        rintro e wz ⟨rfl, hw⟩
        rw [hw]
        clear C hw wz
        go_wp2
        try rw [Exit.noGoto_ret]
        go_ret
        exact ⟨by first | rfl | simp, HBW.out⟩
      | false =>
        have C := HPR.out 1536 1536
        rw [q0.out] at C
        clear q0
        go_wp2_with fail
        try rw [hWd]
        clear hWd
        refine C.mono ?_
        rintro e wz ⟨rfl, hw⟩
        rw [hw]
        clear C hw wz
        cases X1 with
        | true =>
          have C := HBR.out 1536 43008
          rw [q1.out] at C
          clear q1
          go_wp2_with fail
          refine C.mono ?_
          rintro e wz ⟨rfl, hw⟩
          rw [hw]
          clear C hw wz
          go_wp2
          try rw [Exit.noGoto_ret]
          go_ret
          exact ⟨by first | rfl | simp, HBW.out⟩
        | false =>
          have C := HBR.out 1536 43008
          rw [q1.out] at C
          clear q1
          go_wp2_with fail
          refine C.mono ?_
          rintro e wz ⟨rfl, hw⟩
          rw [hw]
          clear C hw wz
          cases X2 with
          | true =>
            have C := HPR.out 1024 2048
            rw [q2.out] at C
            clear q2
            go_wp2_with fail
            refine C.mono ?_
            rintro e wz ⟨rfl, hw⟩
            rw [hw]
            clear C hw wz
            go_wp2
            try rw [Exit.noGoto_ret]
            go_ret
            exact ⟨by first | rfl | simp, HBW.out⟩
          | false =>
            have C := HPR.out 1024 2048
            rw [q2.out] at C
            clear q2
            go_wp2_with fail
            refine C.mono ?_
            rintro e wz ⟨rfl, hw⟩
            rw [hw]
            clear C hw wz
            cases X3 with
            | true =>
              have C := HBR.out 1024 4096
              rw [q3.out] at C
              clear q3
              go_wp2_with fail
              refine C.mono ?_
              rintro e wz ⟨rfl, hw⟩
              rw [hw]
              clear C hw wz
              go_wp2
              try rw [Exit.noGoto_ret]
              go_ret
              exact ⟨by first | rfl | simp, HBW.out⟩
            | false =>
              have C := HBR.out 1024 4096
              rw [q3.out] at C
              clear q3
              go_wp2_with fail
              refine C.mono ?_
              rintro e wz ⟨rfl, hw⟩
              rw [hw]
              clear C hw wz
              cases X4 with
              | true =>
                have C := HPR.out 65536 65536
                rw [q4.out] at C
                clear q4
                go_wp2_with fail
                refine C.mono ?_
                rintro e wz ⟨rfl, hw⟩
                rw [hw]
                clear C hw wz
                go_wp2
                try rw [Exit.noGoto_ret]
                go_ret
                exact ⟨by first | rfl | simp, HBW.out⟩
              | false =>
                have C := HPR.out 65536 65536
                rw [q4.out] at C
                clear q4
                go_wp2_with fail
                refine C.mono ?_
                rintro e wz ⟨rfl, hw⟩
                rw [hw]
                clear C hw wz
                cases X5 with
                | true =>
                  have C := HPR.out 1536 65536
                  rw [q5.out] at C
                  clear q5
                  go_wp2_with fail
                  refine C.mono ?_
                  rintro e wz ⟨rfl, hw⟩
                  rw [hw]
                  clear C hw wz
                  go_wp2
                  try rw [Exit.noGoto_ret]
                  go_ret
                  exact ⟨by first | rfl | simp, HBW.out⟩
                | false =>
                  have C := HPR.out 1536 65536
                  rw [q5.out] at C
                  clear q5
                  go_wp2_with fail
                  refine C.mono ?_
                  rintro e wz ⟨rfl, hw⟩
                  rw [hw]
                  clear C hw wz
                  cases X6 with
                  | true =>
                    have C := HPR.out 65536 1536
                    rw [q6.out] at C
                    clear q6
                    go_wp2_with fail
                    refine C.mono ?_
                    rintro e wz ⟨rfl, hw⟩
                    rw [hw]
                    clear C hw wz
                    go_wp2
                    try rw [Exit.noGoto_ret]
                    go_ret
                    exact ⟨by first | rfl | simp, HBW.out⟩
                  | false =>
                    have C := HPR.out 65536 1536
                    rw [q6.out] at C
                    clear q6
                    go_wp2_with fail
                    refine C.mono ?_
                    rintro e wz ⟨rfl, hw⟩
                    rw [hw]
                    clear C hw wz
                    cases X7 with
                    | true =>
                      have C := HBR.out 65536 51200
                      rw [q7.out] at C
                      clear q7
                      go_wp2_with fail
                      refine C.mono ?_
                      rintro e wz ⟨rfl, hw⟩
                      rw [hw]
                      clear C hw wz
                      go_wp2
                      try rw [Exit.noGoto_ret]
                      go_ret
                      exact ⟨by first | rfl | simp, HBW.out⟩
                    | false =>
                      have C := HBR.out 65536 51200
                      rw [q7.out] at C
                      clear q7
                      go_wp2_with fail
                      refine C.mono ?_
                      rintro e wz ⟨rfl, hw⟩
                      rw [hw]
                      clear C hw wz
                      cases X8 with
                      | true =>
                        have C := HPR.out 131072 131072
                        rw [q8.out] at C
                        clear q8
                        go_wp2_with fail
                        refine C.mono ?_
                        rintro e wz ⟨rfl, hw⟩
                        rw [hw]
                        clear C hw wz
                        go_wp2
                        try rw [Exit.noGoto_ret]
                        go_ret
                        exact ⟨by first | rfl | simp, HBW.out⟩
                      | false =>
                        have C := HPR.out 131072 131072
                        rw [q8.out] at C
                        clear q8
                        go_wp2_with fail
                        refine C.mono ?_
                        rintro e wz ⟨rfl, hw⟩
                        rw [hw]
                        clear C hw wz
                        cases X9 with
                        | true =>
                          have C := HPR.out 460288 262144
                          rw [q9.out] at C
                          clear q9
                          go_wp2_with fail
                          refine C.mono ?_
                          rintro e wz ⟨rfl, hw⟩
                          rw [hw]
                          clear C hw wz
                          go_wp2
                          try rw [Exit.noGoto_ret]
                          go_ret
                          exact ⟨by first | rfl | simp, HBW.out⟩
                        | false =>
                          have C := HPR.out 460288 262144
                          rw [q9.out] at C
                          clear q9
                          go_wp2_with fail
                          refine C.mono ?_
                          rintro e wz ⟨rfl, hw⟩
                          rw [hw]
                          clear C hw wz
                          cases X10 with
                          | true =>
                            have C := HPR.out 262144 198144
                            rw [q10.out] at C
                            clear q10
                            go_wp2_with fail
                            refine C.mono ?_
                            rintro e wz ⟨rfl, hw⟩
                            rw [hw]
                            clear C hw wz
                            go_wp2
                            try rw [Exit.noGoto_ret]
                            go_ret
                            exact ⟨by first | rfl | simp, HBW.out⟩
                          | false =>
                            have C := HPR.out 262144 198144
                            rw [q10.out] at C
                            clear q10
                            go_wp2_with fail
                            refine C.mono ?_
                            rintro e wz ⟨rfl, hw⟩
                            rw [hw]
                            clear C hw wz
                            have C := HFL.out W HBW.out
                            go_wp2_with fail
                            refine C.mono ?_
                            rintro e wz ⟨rfl, bz⟩
                            clear C c8 m0 m1 m2
                            have HBZ : Hid (Below w.heap.size w wz) := HBW.out.trans (bz.mono HBW.out.size)
                            clear bz HBW
                            cases X11 with
                            | true =>
                              go_wp2
                              try rw [Exit.noGoto_ret]
                              go_ret
                              exact ⟨by first | rfl | simp, HBZ.out⟩
                            | false =>
                              go_wp2
                              try rw [Exit.noGoto_ret]
                              go_ret
                              exact ⟨by first | rfl | simp, HBZ.out⟩
end Go.Proofs.YtcmhkfiijdomiaaGreatDoor.wrd
end
