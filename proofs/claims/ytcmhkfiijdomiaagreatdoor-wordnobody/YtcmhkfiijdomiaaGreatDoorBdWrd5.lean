/- Texts that the proof leans on, one behind the other. -/
import Derived.Test.YtcmhkfiijdomiaaGreatDoorBdWrd4
import Derived.Test.YtcmhkfiijdomiaaGreatDoorBdWrd1
import Derived.Test.YtcmhkfiijdomiaaGreatDoorBdPrp6

section
/- word.Edge. -/
set_option linter.unusedVariables false
set_option linter.unusedSimpArgs false
namespace Go.Proofs.YtcmhkfiijdomiaaGreatDoor.wrd
open Go.RowKit Go.Maps
open Go.Proofs.YtcmhkfiijdomiaaGreatDoor.lin Go.Proofs.YtcmhkfiijdomiaaGreatDoor.prp

theorem nearV_cases (a b : Int) : nearV a b = 0 ∨ nearV a b = 1 ∨ nearV a b = 2 := by
  unfold nearV
  split
  · exact .inr (.inr rfl)
  · split
    · exact .inr (.inl rfl)
    · split
      · exact .inr (.inr rfl)
      · exact .inl rfl
theorem edgeK_two (bs fs : List Int) : edgeK bs fs = if nearV (hdK bs) (hdK fs) = 2 then false else if nearV (hdK bs) (hdK fs) = 1 then true else !(joinB (hdK (skip (skip bs).tail)) (hdK (skip bs)) (hdK fs) (hdK (skip fs.tail)) || (hdK fs == 19 && flW bs % 2 == 1)) := by
  unfold edgeK
  by_cases h2 : nearV (hdK bs) (hdK fs) = 2
  · rw [if_pos h2, if_pos h2]
  · rw [if_neg h2, if_neg h2]
    by_cases h1 : nearV (hdK bs) (hdK fs) = 1
    · rw [if_pos h1, if_pos h1]
    · rw [if_neg h1, if_neg h1]
      cases joinB (hdK (skip (skip bs).tail)) (hdK (skip bs)) (hdK fs) (hdK (skip fs.tail))
      · rfl
      · rfl
theorem idx0 (f g : Value) (w : World) : (Instr.index 72 (.agg #[f, g]) (.int .i64 0)).run Tryz.prog w = .ok f w := by kernel_rfl
theorem idx1 (f g : Value) (w : World) : (Instr.index 72 (.agg #[f, g]) (.int .i64 1)).run Tryz.prog w = .ok g w := by kernel_rfl
set_option maxHeartbeats 4000000 in
set_option maxRecDepth 1000000 in
theorem edge_mid_t (t : Nat) (ao : Option Addr) (N cap : Nat) (l : List Int) (n : Nat) (w : World) (h : Tabs w t) (hv : Txt w ao N cap l) (h0 : 0 < n) (hn : n < N) :
    Calls Tryz.prog 12 #[.pointer (some ⟨t, 0, none⟩), .slice ao N cap, .int .i64 (n : Int)] w fun e w' => e = .returned (.bool (edgeK (bk l n) (fw l n))) ∧ Below w.heap.size w w' := by
  have hl := hv.length
  have hlen := hv.len
  have C := wmade_t t w h
  have HNE : Hid (∀ W, Below w.heap.size w W → Calls Tryz.prog 39 #[.agg #[.pointer (some ⟨t, 0, none⟩), .slice ao N cap, .int .i64 (n : Int)]] W fun e w' => e = .returned (.int .i64 (nearV (hdK (bk l n)) (hdK (fw l n)))) ∧ Below W.heap.size W w') := fun W hb => by
    have q := near_t t ao N cap l n W (h.below hb) (hv.below hb) h0 hn
    rwa [kAt_bk (by omega), kAt_fw] at q
  have HFA : Hid (∀ W, Below w.heap.size w W → Calls Tryz.prog 40 #[.agg #[.pointer (some ⟨t, 0, none⟩), .slice ao N cap, .int .i64 (n : Int)]] W fun e w' => e = .returned (.int .i64 (if (joinB (hdK (skip (skip (bk l n)).tail)) (hdK (skip (bk l n))) (hdK (fw l n)) (hdK (skip (fw l n).tail)) || (hdK (fw l n) == 19 && flW (bk l n) % 2 == 1)) = true then 2 else 0)) ∧ Below W.heap.size W w') := fun W hb => far_t t ao N cap l n W (h.below hb) (hv.below hb) h0 hn
  have HNC := nearV_cases (hdK (bk l n)) (hdK (fw l n))
  rw [edgeK_two]
  clear h hv hl
  generalize (joinB (hdK (skip (skip (bk l n)).tail)) (hdK (skip (bk l n))) (hdK (fw l n)) (hdK (skip (fw l n).tail)) || (hdK (fw l n) == 19 && flW (bk l n) % 2 == 1)) = F at *
  generalize nearV (hdK (bk l n)) (hdK (fw l n)) = V at *
  have q0 : ((N : Int) == 0) = false := by rw [beq_eq_false_iff_ne]; omega
  have q1 : ¬ (n : Int) < 0 := by omega
  have q2 : ¬ (N : Int) < (n : Int) := by omega
  have q3 : ((n : Int) == 0) = false := by rw [beq_eq_false_iff_ne]; omega
  have q4 : ((n : Int) == (N : Int)) = false := by rw [beq_eq_false_iff_ne]; omega
  have x0 := idx0 (.func (.func 39) #[.agg #[.pointer (some ⟨t, 0, none⟩), .slice ao N cap, .int .i64 (n : Int)]] #[]) (.func (.func 40) #[.agg #[.pointer (some ⟨t, 0, none⟩), .slice ao N cap, .int .i64 (n : Int)]] #[])
  have x1 := idx1 (.func (.func 39) #[.agg #[.pointer (some ⟨t, 0, none⟩), .slice ao N cap, .int .i64 (n : Int)]] #[]) (.func (.func 40) #[.agg #[.pointer (some ⟨t, 0, none⟩), .slice ao N cap, .int .i64 (n : Int)]] #[])
  clear h0 hn
  obtain ⟨R, hR⟩ : ∃ R, (if V = 2 then false else if V = 1 then true else !F) = R := ⟨_, rfl⟩
  rw [hR]
  have HR : Hid ((if V = 2 then false else if V = 1 then true else !F) = R) := hR
  clear hR
  go_enter Tryz.func12, Tryz.ntmps12
  go_wp2_with fail
  refine C.mono ?_
  rintro e w1 ⟨rfl, b1⟩
  clear C
  have nb := World.alloc_heap_new w1 (.cells #[.pointer (some ⟨t, 0, none⟩), .slice ao N cap, .int .i64 (n : Int)] 69)
  have Bd : Below w.heap.size w (w1.alloc (.cells #[.pointer (some ⟨t, 0, none⟩), .slice ao N cap, .int .i64 (n : Int)] 69)) := b1.alloc b1.size _
  generalize hWd : w1.alloc (.cells #[.pointer (some ⟨t, 0, none⟩), .slice ao N cap, .int .i64 (n : Int)] 69) = W at *
  have d0 := cell_of_row W w1.heap.size 0 _ _ _ nb
  have d1 := cell_of_row W w1.heap.size 1 _ _ _ nb
  have d2 := cell_of_row W w1.heap.size 2 _ _ _ nb
  simp at d0 d1 d2
  have HBW : Hid (Below w.heap.size w W) := Bd
  clear nb Bd b1
  go_wp2
  try rw [hWd]
  clear hWd
  refine wp_loop_rounds 3 ?_
  rw [rounds_succ]
  have C := HNE.out W HBW.out
  rcases HNC with h | h | h
  · subst h
    go_wp2_with fail
    refine C.mono ?_
    rintro e w2 ⟨rfl, b2⟩
    clear C
    have HB2 : Hid (Below w.heap.size w w2) := HBW.out.trans (b2.mono HBW.out.size)
    clear b2 d0 d1 d2
    go_wp2
    rw [rounds_succ]
    have C := HFA.out w2 HB2.out
    cases F with
    | true =>
      have hRf : R = false := HR.out.symm
      subst hRf
      rw [if_pos rfl] at C
      go_wp2_with fail
      refine C.mono ?_
      rintro e w3 ⟨rfl, b3⟩
      clear C
      have HB3 : Hid (Below w.heap.size w w3) := HB2.out.trans (b3.mono HB2.out.size)
      clear b3
      go_wp2
      try rw [Exit.noGoto_ret]
      go_ret
      exact ⟨rfl, HB3.out⟩
    | false =>
      have hRf : R = true := HR.out.symm
      subst hRf
      rw [if_neg (by decide)] at C
      go_wp2_with fail
      refine C.mono ?_
      rintro e w3 ⟨rfl, b3⟩
      clear C
      have HB3 : Hid (Below w.heap.size w w3) := HB2.out.trans (b3.mono HB2.out.size)
      clear b3
      go_wp2
      rw [rounds_succ]
      go_wp2
      try rw [Exit.noGoto_ret]
      go_ret
      exact ⟨rfl, HB3.out⟩
  · subst h
    have hRf : R = true := HR.out.symm
    subst hRf
    go_wp2_with fail
    refine C.mono ?_
    rintro e w2 ⟨rfl, b2⟩
    clear C
    have HB2 : Hid (Below w.heap.size w w2) := HBW.out.trans (b2.mono HBW.out.size)
    clear b2 d0 d1 d2
    go_wp2
    try rw [Exit.noGoto_ret]
    go_ret
    exact ⟨rfl, HB2.out⟩
  · subst h
    have hRf : R = false := HR.out.symm
    subst hRf
    go_wp2_with fail
    refine C.mono ?_
    rintro e w2 ⟨rfl, b2⟩
    clear C
    have HB2 : Hid (Below w.heap.size w w2) := HBW.out.trans (b2.mono HBW.out.size)
    clear b2 d0 d1 d2
    go_wp2
    try rw [Exit.noGoto_ret]
    go_ret
    exact ⟨rfl, HB2.out⟩
theorem edge_in' {l : List Int} {n : Nat} (h0 : 0 < n) (hn : n < l.length) : edgeW l (n : Int) = edgeK (bk l n) (fw l n) := by
  unfold edgeW
  rw [if_neg (by omega), if_neg (by omega), Int.toNat_natCast]
set_option maxHeartbeats 1000000 in
set_option maxRecDepth 1000000 in
theorem edge_t (t : Nat) (ao : Option Addr) (N cap : Nat) (l : List Int) (i : Int) (w : World) (h : Tabs w t) (hv : Txt w ao N cap l) :
    Calls Tryz.prog 12 #[.pointer (some ⟨t, 0, none⟩), .slice ao N cap, .int .i64 i] w fun e w' => e = .returned (.bool (edgeW l i)) ∧ Below w.heap.size w w' := by
  have hl := hv.length
  have hlen := hv.len
  by_cases hin : 0 < i ∧ i < N
  · obtain ⟨m, hm⟩ : ∃ m : Nat, i = (m : Int) := ⟨i.toNat, by omega⟩
    rw [hm, edge_in' (by omega) (by omega)]
    exact edge_mid_t t ao N cap l m w h hv (by omega) (by omega)
  have C := wmade_t t w h
  obtain ⟨R, hR⟩ : ∃ R, edgeW l i = R := ⟨_, rfl⟩
  have HE : Hid ((if N = 0 ∨ i < 0 ∨ (N : Int) < i then false else if i = 0 ∨ i = N then true else edgeK (bk l i.toNat) (fw l i.toNat)) = R) := by unfold Hid; rw [← hR, ← hl]; rfl
  rw [hR]
  clear h hv hl hR
  by_cases h0 : N = 0
  · have hRf : R = false := by rw [← HE.out, if_pos (.inl h0)]
    clear HE hin
    subst hRf h0
    go_enter Tryz.func12, Tryz.ntmps12
    go_wp2_with fail
    refine C.mono ?_
    rintro e w1 ⟨rfl, hb⟩
    clear C
    go_wp2
    try rw [Exit.noGoto_ret]
    go_ret
    exact ⟨rfl, hb⟩
  have q0 : ((N : Int) == 0) = false := by rw [beq_eq_false_iff_ne]; omega
  by_cases h1 : i < 0
  · have hRf : R = false := by rw [← HE.out, if_pos (.inr (.inl h1))]
    clear HE hin
    subst hRf
    go_enter Tryz.func12, Tryz.ntmps12
    go_wp2_with fail
    refine C.mono ?_
    rintro e w1 ⟨rfl, hb⟩
    clear C
    go_wp2
    try rw [Exit.noGoto_ret]
    go_ret
    exact ⟨rfl, hb⟩
  by_cases h2 : (N : Int) < i
  · have hRf : R = false := by rw [← HE.out, if_pos (.inr (.inr h2))]
    clear HE hin
    subst hRf
    go_enter Tryz.func12, Tryz.ntmps12
    go_wp2_with fail
    refine C.mono ?_
    rintro e w1 ⟨rfl, hb⟩
    clear C
    go_wp2
    try rw [Exit.noGoto_ret]
    go_ret
    exact ⟨rfl, hb⟩
  by_cases h3 : i = 0
  · have hRf : R = true := by rw [← HE.out, if_neg (by omega), if_pos (.inl h3)]
    clear HE hin
    subst hRf h3
    go_enter Tryz.func12, Tryz.ntmps12
    go_wp2_with fail
    refine C.mono ?_
    rintro e w1 ⟨rfl, hb⟩
    clear C
    go_wp2
    try rw [Exit.noGoto_ret]
    go_ret
    exact ⟨rfl, hb⟩
  have q3 : (i == 0) = false := beq_eq_false_iff_ne.2 h3
  have h4 : i = N := by omega
  have hRf : R = true := by rw [← HE.out, if_neg (by omega), if_pos (.inr h4)]
  have q4 : (i == (N : Int)) = true := by rw [h4]; exact beq_self_eq_true _
  clear HE h4 h3 hin
  subst hRf
  go_enter Tryz.func12, Tryz.ntmps12
  go_wp2_with fail
  refine C.mono ?_
  rintro e w1 ⟨rfl, hb⟩
  clear C
  go_wp2
  try rw [Exit.noGoto_ret]
  go_ret
  exact ⟨rfl, hb⟩
set_option maxRecDepth 1000000 in
theorem edge_no (v u : Value) (i : Int) (w : World) (h : Unmade w v) : Calls Tryz.prog 12 #[v, u, .int .i64 i] w fun e w' => e = .returned (.bool false) ∧ w' = w := by
  have C := wmade_no v w h
  clear h
  go_enter Tryz.func12, Tryz.ntmps12
  go_wp2_with fail
  refine C.mono ?_
  rintro e w1 ⟨rfl, hw⟩
  rw [hw]
  clear C hw
  go_wp2
  try rw [Exit.noGoto_ret]
  go_ret
  exact ⟨rfl, rfl⟩
end Go.Proofs.YtcmhkfiijdomiaaGreatDoor.wrd
end

section
/- Words, plainly: line ends, letters, marks; what is nothing. -/
set_option linter.unusedVariables false
set_option linter.unusedSimpArgs false
namespace Go.Proofs.YtcmhkfiijdomiaaGreatDoor.wrd
open Go.Proofs.YtcmhkfiijdomiaaGreatDoor.prp (sF worL wor_apart sF_first firstR first_mem inR RL)

/-- A line end, and nothing, count as nothing. -/
def nz (k : Int) : Int := if lineE k = true ∨ k < 0 then 0 else k
theorem lineE_iff (k : Int) : lineE k = true ↔ k = 3 ∨ k = 1 ∨ k = 2 := by unfold lineE; simp only [Bool.or_eq_true, beq_iff_eq, or_assoc]
theorem nz_beq (k c : Int) (hc : 4 ≤ c) : (nz k == c) = (k == c) := by
  rw [Bool.eq_iff_iff, beq_iff_eq, beq_iff_eq]
  unfold nz
  split
  · rename_i h
    rw [lineE_iff] at h
    omega
  · rfl
theorem nz_let (k : Int) : letB (nz k) = letB k := by unfold letB; rw [nz_beq _ _ (by decide), nz_beq _ _ (by decide)]
theorem nz_quo (k : Int) : quoB (nz k) = quoB k := by unfold quoB; rw [nz_beq _ _ (by decide), nz_beq _ _ (by decide)]
theorem join_nz (a2 a b b2 : Int) : joinB (nz a2) (nz a) b (nz b2) = joinB a2 a b b2 := by
  unfold joinB
  simp only [nz_let, nz_quo, nz_beq _ 10 (by decide), nz_beq _ 12 (by decide), nz_beq _ 13 (by decide), nz_beq _ 14 (by decide), nz_beq _ 16 (by decide), nz_beq _ 17 (by decide), nz_beq _ 18 (by decide)]
theorem join_line {a : Int} (a2 c b b2 : Int) (h : lineE a = true ∨ a < 0) : joinB a2 a b b2 = joinB c a b b2 := by
  have h' : (a = 3 ∨ a = 1 ∨ a = 2) ∨ a < 0 := by rw [← lineE_iff]; exact h
  have e1 : (a == 13) = false := by rw [beq_eq_false_iff_ne]; omega
  have e2 : quoB a = false := by
    unfold quoB
    rw [show (a == 15) = false from by rw [beq_eq_false_iff_ne]; omega, show (a == 11) = false from by rw [beq_eq_false_iff_ne]; omega]
    rfl
  have e3 : (a == 12) = false := by rw [beq_eq_false_iff_ne]; omega
  have e4 : (a == 14) = false := by rw [beq_eq_false_iff_ne]; omega
  unfold joinB
  simp only [e1, e2, e3, e4, Bool.or_false, Bool.and_false, Bool.false_and]
/-- As the document has it: what stands ahead of a line end, or of nothing, is nothing. -/
theorem join_doc (a2 a b b2 : Int) : joinB (if lineE a = true ∨ a < 0 then 0 else nz a2) (nz a) b (nz b2) = joinB a2 a b b2 := by
  by_cases h : lineE a = true ∨ a < 0
  · rw [if_pos h, ← join_nz a2 a b b2]
    have hz : nz a = 0 := by unfold nz; rw [if_pos h]
    rw [hz]
    have e : ∀ x, joinB x 0 b (nz b2) = joinB 0 0 b (nz b2) := fun x => by
      unfold joinB
      simp only [show ((0 : Int) == 13) = false from rfl, show quoB 0 = false from rfl, show ((0 : Int) == 12) = false from rfl, show ((0 : Int) == 14) = false from rfl, Bool.or_false, Bool.and_false, Bool.false_and]
    exact (e _).symm
  · rw [if_neg h, join_nz]
theorem near_cr : nearV 1 2 = 2 := by decide
theorem near_line {a b : Int} (h : ¬ (a = 1 ∧ b = 2)) (h2 : lineE a = true ∨ lineE b = true) : nearV a b = 1 := by unfold nearV; rw [if_neg h, if_pos h2]
theorem edge_mid {l : List Int} {m n : Nat} {x y : Int} (hn : n = m + 1) (hx : l[m]? = some x) (hy : l[n]? = some y) : edgeW l (n : Int) = edgeK (kw x :: bk l m) (kw y :: fw l (n + 1)) := by
  have hl := (List.getElem?_eq_some_iff.1 hy).1
  unfold edgeW
  rw [if_neg (by omega), if_neg (by omega), Int.toNat_natCast, fw_cons hy, hn, bk_succ hx]
theorem kw_lits : kw 10 = 2 ∧ kw 13 = 1 ∧ kw 769 = 5 := by decide +kernel
theorem cr_recs : ∀ x ∈ worL, x.2.2.getD 0 [] = [67, 82] → x.1 = 13 ∧ x.2.1 = 13 := by decide +kernel
theorem kw_cr (x : Int) : kw x = 1 ↔ x = 13 := by
  constructor
  · intro h
    have h1 : sF [] worL x = [67, 82] := (wS_iff (sF [] worL x) 1 (by decide) (by decide)).1 h
    rw [sF_first [] worL wor_apart] at h1
    cases hf : firstR worL x with
    | none => rw [hf] at h1; cases h1
    | some r =>
      rw [hf] at h1
      obtain ⟨hm, hi⟩ := first_mem hf
      have := cr_recs r hm h1
      unfold inR at hi
      rw [Bool.and_eq_true, decide_eq_true_eq, decide_eq_true_eq] at hi
      omega
  · rintro rfl
    exact kw_lits.2.1
theorem edgeK_line {a b : Int} (bs fs : List Int) (h : ¬ (a = 1 ∧ b = 2)) (h2 : lineE a = true ∨ lineE b = true) : edgeK (a :: bs) (b :: fs) = true := by
  unfold edgeK
  rw [show hdK (a :: bs) = a from rfl, show hdK (b :: fs) = b from rfl, near_line h h2, if_neg (by decide), if_pos rfl]
theorem lines_ahead (A B : List Int) (x : Int) : edgeW (A ++ [x] ++ [10] ++ B) ((A.length + 1 : Nat) : Int) = !(x == 13) := by
  have hx : (A ++ [x] ++ [10] ++ B)[A.length]? = some x := by simp
  have hy : (A ++ [x] ++ [10] ++ B)[A.length + 1]? = some 10 := by simp
  rw [edge_mid rfl hx hy, kw_lits.1]
  by_cases h : x = 13
  · rw [(kw_cr x).2 h, h]; rfl
  · rw [edgeK_line _ _ (fun e => h ((kw_cr x).1 e.1)) (.inr rfl), beq_eq_false_iff_ne.2 h]; rfl
theorem lines_first (B : List Int) : edgeW ([10] ++ B) 0 = true := edge_zero (by simp)
theorem lines_behind (A B : List Int) : edgeW (A ++ [10] ++ B) ((A.length : Int) + 1) = true := by
  cases B with
  | nil =>
    have : ((A.length : Int) + 1) = ((A ++ [10] ++ []).length : Nat) := by simp
    rw [this]
    exact edge_end (by simp)
  | cons y B =>
    have hx : (A ++ [10] ++ y :: B)[A.length]? = some 10 := by simp
    have hy : (A ++ [10] ++ y :: B)[A.length + 1]? = some y := by simp
    have e : ((A.length : Int) + 1) = ((A.length + 1 : Nat) : Int) := by omega
    rw [e, edge_mid rfl hx hy, kw_lits.1]
    exact edgeK_line _ _ (fun e => absurd e.1 (by decide)) (.inl rfl)
theorem edgeK_letters (bs fs : List Int) : edgeK (9 :: bs) (9 :: fs) = false := by
  unfold edgeK
  rw [skip_stop bs (show passB 9 = false from rfl)]
  rw [show hdK (9 :: bs) = 9 from rfl, show hdK (9 :: fs) = 9 from rfl, show nearV 9 9 = 0 from by decide, if_neg (by decide), if_neg (by decide)]
  rfl
theorem letters_mid {l : List Int} {n : Nat} (h : ∀ x ∈ l, kw x = 9) (h0 : 0 < n) (hn : n < l.length) : edgeW l (n : Int) = false := by
  obtain ⟨m, rfl⟩ : ∃ m, n = m + 1 := ⟨n - 1, by omega⟩
  have hx : l[m]? = some l[m] := List.getElem?_eq_getElem (by omega)
  have hy : l[m + 1]? = some l[m + 1] := List.getElem?_eq_getElem hn
  rw [edge_mid rfl hx hy, h _ (List.mem_of_getElem? hx), h _ (List.mem_of_getElem? hy)]
  exact edgeK_letters _ _
theorem edgeK_same {bs bs' fs fs' : List Int} (h1 : nearV (hdK bs) (hdK fs) = nearV (hdK bs') (hdK fs')) (h2 : hdK (skip bs) = hdK (skip bs')) (h3 : hdK (skip (skip bs).tail) = hdK (skip (skip bs').tail)) (h4 : hdK fs = hdK fs') (h5 : hdK (skip fs.tail) = hdK (skip fs'.tail)) (h6 : flW bs = flW bs') : edgeK bs fs = edgeK bs' fs' := by
  unfold edgeK
  rw [h1, h2, h3, h4, h5, h6]
theorem mark_hd (P Z : List Int) : hdK (skip (P ++ 9 :: Z)) = hdK (skip (P ++ 5 :: 9 :: Z)) := by
  induction P with
  | nil => rw [List.nil_append, List.nil_append, skip_pass (k := 5) _ rfl]
  | cons p P ih =>
    cases h : passB p
    · rw [List.cons_append, List.cons_append, skip_stop _ h, skip_stop _ h]; rfl
    · rw [List.cons_append, List.cons_append, skip_pass _ h, skip_pass _ h]; exact ih
theorem mark_two (P Z : List Int) : hdK (skip (skip (P ++ 9 :: Z)).tail) = hdK (skip (skip (P ++ 5 :: 9 :: Z)).tail) := by
  induction P with
  | nil => rw [List.nil_append, List.nil_append, skip_pass (k := 5) _ rfl]
  | cons p P ih =>
    cases h : passB p
    · rw [List.cons_append, List.cons_append, skip_stop _ h, skip_stop _ h]; exact mark_hd P Z
    · rw [List.cons_append, List.cons_append, skip_pass _ h, skip_pass _ h]; exact ih
theorem mark_fl (P Z : List Int) : flW (P ++ 9 :: Z) = flW (P ++ 5 :: 9 :: Z) := by
  induction P with
  | nil => rw [List.nil_append, List.nil_append, flW_pass (k := 5) _ rfl]
  | cons p P ih =>
    cases h : passB p
    · rw [List.cons_append, List.cons_append, flW_stop _ h, flW_stop _ h, ih]
    · rw [List.cons_append, List.cons_append, flW_pass _ h, flW_pass _ h]; exact ih
theorem mark_fw (P Z : List Int) : hdK (skip (P ++ 9 :: Z)) = hdK (skip (P ++ 9 :: 5 :: Z)) := by
  induction P with
  | nil => rfl
  | cons p P ih =>
    cases h : passB p
    · rw [List.cons_append, List.cons_append, skip_stop _ h, skip_stop _ h]; rfl
    · rw [List.cons_append, List.cons_append, skip_pass _ h, skip_pass _ h]; exact ih
theorem near_mark (b : Int) : nearV 9 b = nearV 5 b := by
  unfold nearV
  rw [if_neg (show ¬ ((9 : Int) = 1 ∧ b = 2) from fun h => absurd h.1 (by decide)), if_neg (show ¬ ((5 : Int) = 1 ∧ b = 2) from fun h => absurd h.1 (by decide))]
  rw [show lineE 9 = false from rfl, show lineE 5 = false from rfl]
  congr 1
  simp
theorem mark_ahead (P Z fs : List Int) : edgeK (P ++ 9 :: Z) fs = edgeK (P ++ 5 :: 9 :: Z) fs := by
  refine edgeK_same ?_ (mark_hd P Z) (mark_two P Z) rfl rfl (mark_fl P Z)
  cases P with
  | nil => exact near_mark _
  | cons p P => rfl
theorem mark_behind (bs P Z : List Int) : edgeK bs (P ++ 9 :: Z) = edgeK bs (P ++ 9 :: 5 :: Z) := by
  cases P with
  | nil => exact edgeK_same rfl rfl rfl rfl (by rw [List.nil_append, List.nil_append, List.tail_cons, List.tail_cons, skip_pass (k := 5) _ rfl]) rfl
  | cons p P => exact edgeK_same rfl rfl rfl rfl (mark_fw P Z) rfl
theorem mark_own (bs fs : List Int) : edgeK (9 :: bs) (5 :: fs) = false := by
  unfold edgeK
  rw [show hdK (9 :: bs) = 9 from rfl, show hdK (5 :: fs) = 5 from rfl, show nearV 9 5 = 2 from by decide, if_pos rfl]
/-- A mark behind a letter: its own place is no edge. -/
theorem marks_at {A B : List Int} {x : Int} (h : kw x = 9) : edgeW (A ++ [x] ++ [769] ++ B) ((A.length + 1 : Nat) : Int) = false := by
  have hx : (A ++ [x] ++ [769] ++ B)[A.length]? = some x := by simp
  have hy : (A ++ [x] ++ [769] ++ B)[A.length + 1]? = some 769 := by simp
  rw [edge_mid rfl hx hy, kw_lits.2.2, h]
  exact mark_own _ _
theorem edge_in {l : List Int} {n : Nat} (h0 : 0 < n) (hn : n < l.length) : edgeW l (n : Int) = edgeK (bk l n) (fw l n) := by
  unfold edgeW
  rw [if_neg (by omega), if_neg (by omega), Int.toNat_natCast]
/-- Places ahead of it stay as they are. -/
theorem marks_low {A B : List Int} {x : Int} (h : kw x = 9) {i : Nat} (hi : i ≤ A.length) : edgeW (A ++ [x] ++ B) (i : Int) = edgeW (A ++ [x] ++ [769] ++ B) (i : Int) := by
  rcases Nat.eq_zero_or_pos i with h0 | h0
  · subst h0
    rw [show ((0 : Nat) : Int) = 0 from rfl, edge_zero (by simp; omega), edge_zero (by simp; omega)]
  · rw [edge_in h0 (by simp; omega), edge_in h0 (by simp; omega)]
    have e1 : bk (A ++ [x] ++ B) i = bk A i := by unfold bk; rw [List.append_assoc, List.take_append_of_le_length hi]
    have e2 : bk (A ++ [x] ++ [769] ++ B) i = bk A i := by unfold bk; rw [List.append_assoc, List.append_assoc, List.take_append_of_le_length hi]
    have e3 : fw (A ++ [x] ++ B) i = fw A i ++ 9 :: B.map kw := by unfold fw; rw [List.append_assoc, List.drop_append_of_le_length hi, List.map_append, List.map_append, List.map_singleton, h]; rfl
    have e4 : fw (A ++ [x] ++ [769] ++ B) i = fw A i ++ 9 :: 5 :: B.map kw := by unfold fw; rw [List.append_assoc, List.append_assoc, List.drop_append_of_le_length hi, List.map_append, List.map_append, List.map_append, List.map_singleton, List.map_singleton, h, kw_lits.2.2]; rfl
    rw [e1, e2, e3, e4]
    exact mark_behind _ _ _
/-- Places behind it too. -/
theorem marks_high {A B : List Int} {x : Int} (h : kw x = 9) {j : Nat} (hj : j < B.length) : edgeW (A ++ [x] ++ B) ((A.length + 1 + j : Nat) : Int) = edgeW (A ++ [x] ++ [769] ++ B) ((A.length + 1 + j + 1 : Nat) : Int) := by
  rw [edge_in (by omega) (by simp; omega), edge_in (by omega) (by simp; omega)]
  have l1 : (A ++ [x]).length = A.length + 1 := by simp
  have l2 : (A ++ [x] ++ [769]).length = A.length + 2 := by simp
  have e1 : bk (A ++ [x] ++ B) (A.length + 1 + j) = bk B j ++ 9 :: (A.map kw).reverse := by
    unfold bk
    rw [← l1, List.take_length_add_append, List.map_append, List.reverse_append, List.map_append, List.reverse_append, List.map_singleton, h]; rfl
  have e2 : bk (A ++ [x] ++ [769] ++ B) (A.length + 1 + j + 1) = bk B j ++ 5 :: 9 :: (A.map kw).reverse := by
    unfold bk
    rw [show A.length + 1 + j + 1 = (A ++ [x] ++ [769]).length + j by rw [l2]; omega, List.take_length_add_append, List.map_append, List.reverse_append, List.map_append, List.reverse_append, List.map_append, List.reverse_append, List.map_singleton, List.map_singleton, h, kw_lits.2.2]; rfl
  have e3 : fw (A ++ [x] ++ B) (A.length + 1 + j) = fw B j := by unfold fw; rw [← l1, List.drop_length_add_append]
  have e4 : fw (A ++ [x] ++ [769] ++ B) (A.length + 1 + j + 1) = fw B j := by unfold fw; rw [show A.length + 1 + j + 1 = (A ++ [x] ++ [769]).length + j by rw [l2]; omega, List.drop_length_add_append]
  rw [e1, e2, e3, e4]
  exact mark_ahead _ _ _
end Go.Proofs.YtcmhkfiijdomiaaGreatDoor.wrd
end
