/- NamesBack. -/
import Derived.Test.YtnpnmhjhohhnjaaDoorNamLaws2
set_option linter.unusedVariables false
set_option linter.unusedSimpArgs false
namespace Go.Proofs.YtnpnmhjhohhnjaaDoor.nam
open Go.RowKit lin

/-- What Resolve answers: an error alone, or a row of the file. -/
theorem res_cases (s : ByteArray) : (∃ e, resolveV s = (0, [], e) ∧ (e = 50 ∨ e = 51)) ∨ ∃ r ∈ rowsL, (r.1 = [103, 99] ∨ r.1 = [115, 99] ∨ r.1 = [98, 105]) ∧ resolveV s = (numL r.1, r.2.1, 0) := by
  have al : ∀ l, (∃ e, aloneL l = (0, [], e) ∧ (e = 50 ∨ e = 51)) ∨ ∃ r ∈ rowsL, (r.1 = [103, 99] ∨ r.1 = [115, 99] ∨ r.1 = [98, 105]) ∧ aloneL l = (numL r.1, r.2.1, 0) := fun l => by
    cases h1 : lookL ([103, 99], l) with
    | some r =>
      obtain ⟨hm, hk⟩ := look_mem h1
      have hk : r.1 = [103, 99] := hk
      exact .inr ⟨r, hm, .inl hk, by rw [alone1 h1, hk]; rfl⟩
    | none =>
      cases h2 : lookL ([98, 105], l) with
      | some r =>
        obtain ⟨hm, hk⟩ := look_mem h2
        have hk : r.1 = [98, 105] := hk
        exact .inr ⟨r, hm, .inr (.inr hk), by rw [alone2 h1 h2, hk]; rfl⟩
      | none =>
        cases h3 : lookL ([115, 99], l) with
        | some r =>
          obtain ⟨hm, hk⟩ := look_mem h3
          have hk : r.1 = [115, 99] := hk
          exact .inr ⟨r, hm, .inr (.inl hk), by rw [alone3 h1 h2 h3, hk]; rfl⟩
        | none => exact .inl ⟨50, alone4 h1 h2 h3, .inl rfl⟩
  rcases mark_cases s with ⟨h, _⟩ | ⟨p, h, _⟩
  · rw [resolve0 s h]; exact al _
  · rw [resolve1 s p h]
    cases h1 : lookL ([112, 114], looseL (s.data.toList.take p)) with
    | none => exact .inl ⟨50, both0 h1, .inl rfl⟩
    | some r =>
      cases h2 : lookL (r.2.1, looseL (s.data.toList.drop (p + 1))) with
      | none => exact .inl ⟨51, both1 h1 h2, .inr rfl⟩
      | some q =>
        obtain ⟨hm, hk⟩ := look_mem h2
        have hk : q.1 = r.2.1 := hk
        refine .inr ⟨q, hm, ?_, by rw [both2 h1 h2, hk]⟩
        rcases rows_pr r (look_mem h1).1 (look_mem h1).2 with e | e
        · exact .inl (by rw [hk, e])
        · exact .inr (.inl (by rw [hk, e]))
def aheadL (k : List UInt8) : List UInt8 := if k = [103, 99] then [103, 99, 61] else if k = [115, 99] then [115, 99, 61] else []
theorem back_all : ∀ r ∈ rowsL, r.1 = [112, 114] ∨ (longL (numL r.1) r.2.1 = (r.2.2, true) ∧ resolveV (BA (aheadL r.1 ++ r.2.2)) = (numL r.1, r.2.1, 0)) := by decide +kernel

set_option maxHeartbeats 1500000 in
set_option maxRecDepth 100000 in
theorem namesBack_any (s : ByteArray) (w : World) (hs : s.size ≤ 140737488355327) :
    Calls Tryd.prog 7 #[.string s] w fun e w' => e = .returned (.bool true) ∧ Below w.heap.size w w' := by
  have L1 := resolve_any s w hs
  have L2 : Hid (∀ W, Calls Tryd.prog 12 #[.string s] W fun e w' => e = .returned (.tuple #[.int .i64 (resolveV s).1, .string (BA (resolveV s).2.1), .int .i64 (resolveV s).2.2]) ∧ Below W.heap.size W w') := fun W => rresolve_any s W hs
  have AW : Hid (∀ W, Calls Tryd.prog 10 #[] W fun e w' => e = .returned (.bool true) ∧ Below W.heap.size W w') := awake_any
  rcases res_cases s with ⟨er, hr, he⟩ | ⟨r, hm, hk, hr⟩
  · rw [hr] at L1 L2
    have t1 : (er == 0) = false := by rcases he with rfl | rfl <;> rfl
    have t1' : (er != 0) = true := by rcases he with rfl | rfl <;> rfl
    have t2 : (er == er) = true := beq_self_eq_true _
    have t3 : (BA []).toList.isEmpty = true := nilT [] rfl
    simp only at L1 L2
    clear he hr
    generalize BA [] = x at *
    go_enter Tryd.func7, Tryd.ntmps7
    go_wp2_with fail
    refine L1.mono ?_
    rintro e w1 ⟨rfl, b1⟩
    clear L1
    go_wp2_with fail
    refine (L2.out _).mono ?_
    rintro e w2 ⟨rfl, hb2⟩
    have b2 := b1.trans (hb2.mono b1.size)
    go_wp2_with fail
    refine (AW.out _).mono ?_
    rintro e w3 ⟨rfl, hb3⟩
    have b3 := b2.trans (hb3.mono b2.size)
    go_wp2
    go_ret
    exact ⟨rfl, b3⟩
  · rw [hr] at L1
    simp only at L1
    have hsm := rows_small r hm
    obtain ⟨hl, hb⟩ : longL (numL r.1) r.2.1 = (r.2.2, true) ∧ resolveV (BA (aheadL r.1 ++ r.2.2)) = (numL r.1, r.2.1, 0) := by
      rcases back_all r hm with h | h
      · rw [h] at hk; rcases hk with h | h | h <;> exact absurd h (by decide)
      · exact h
    have LG : Hid (∀ W, Calls Tryd.prog 13 #[.int .i64 (numL r.1), .string (BA r.2.1)] W fun e w' => e = .returned (.tuple #[.string (BA r.2.2), .bool true]) ∧ Below W.heap.size W w') := fun W => by
      have := long_any (numL r.1) r.2.1 W (by omega)
      rw [hl] at this
      exact this
    have RB : Hid (∀ W, Calls Tryd.prog 11 #[.string (BA (aheadL r.1 ++ r.2.2))] W fun e w' => e = .returned (.tuple #[.int .i64 (numL r.1), .string (BA r.2.1), .int .i64 0]) ∧ Below W.heap.size W w') := fun W => by
      have hz : (BA (aheadL r.1 ++ r.2.2)).size ≤ 140737488355327 := by
        have : (aheadL r.1).length ≤ 3 := by unfold aheadL; (repeat' split) <;> simp
        rw [BA_size, List.length_append]; omega
      have := resolve_any (BA (aheadL r.1 ++ r.2.2)) W hz
      rw [hb] at this
      exact this
    obtain ⟨r0, r1, r2⟩ := r
    simp only at L1 LG RB hk hsm
    clear hr hl hb hm L2 AW
    have t1 : ((BA r1).toList == (BA r1).toList) = true := beq_self_eq_true _
    have hz2 : (BA r2).size = r2.length := rfl
    rcases hk with rfl | rfl | rfl
    · have hX : (⟨#[103, 99, 61]⟩ : ByteArray) ++ BA r2 = BA (aheadL [103, 99] ++ r2) := BA_app [103, 99, 61] r2
      have c3 : ByteArray.size ⟨#[103, 99, 61]⟩ = 3 := rfl
      rw [show numL [103, 99] = 1 from rfl] at *
      have hq1 : min (max (1 : Int) 0) 3 = 1 := by decide
      generalize BA (aheadL [103, 99] ++ r2) = X at *
      generalize BA r1 = x at *
      generalize BA r2 = y at *
      go_enter Tryd.func7, Tryd.ntmps7
      go_wp2_with fail
      refine L1.mono ?_
      rintro e w1 ⟨rfl, b1⟩
      clear L1
      go_wp2_with fail
      refine (LG.out _).mono ?_
      rintro e w2 ⟨rfl, hb2⟩
      have b2 := b1.trans (hb2.mono b1.size)
      go_wp2_with fail
      refine (RB.out _).mono ?_
      rintro e w3 ⟨rfl, hb3⟩
      have b3 := (b2.alloc b2.size _).trans (hb3.mono (b2.alloc b2.size _).size)
      go_wp2
      go_ret
      exact ⟨rfl, b3⟩
    · have hX : (⟨#[115, 99, 61]⟩ : ByteArray) ++ BA r2 = BA (aheadL [115, 99] ++ r2) := BA_app [115, 99, 61] r2
      have c3 : ByteArray.size ⟨#[115, 99, 61]⟩ = 3 := rfl
      rw [show numL [115, 99] = 2 from rfl] at *
      have hq1 : min (max (2 : Int) 0) 3 = 2 := by decide
      generalize BA (aheadL [115, 99] ++ r2) = X at *
      generalize BA r1 = x at *
      generalize BA r2 = y at *
      go_enter Tryd.func7, Tryd.ntmps7
      go_wp2_with fail
      refine L1.mono ?_
      rintro e w1 ⟨rfl, b1⟩
      clear L1
      go_wp2_with fail
      refine (LG.out _).mono ?_
      rintro e w2 ⟨rfl, hb2⟩
      have b2 := b1.trans (hb2.mono b1.size)
      go_wp2_with fail
      refine (RB.out _).mono ?_
      rintro e w3 ⟨rfl, hb3⟩
      have b3 := (b2.alloc b2.size _).trans (hb3.mono (b2.alloc b2.size _).size)
      go_wp2
      go_ret
      exact ⟨rfl, b3⟩
    · have hX : (⟨#[]⟩ : ByteArray) ++ BA r2 = BA (aheadL [98, 105] ++ r2) := BA_app [] r2
      have hXY : BA (aheadL [98, 105] ++ r2) = BA r2 := rfl
      have c3 : ByteArray.size ⟨#[]⟩ = 0 := rfl
      rw [show numL [98, 105] = 3 from rfl] at *
      have hq1 : min (max (3 : Int) 0) 3 = 3 := by decide
      rw [hXY] at *
      clear hXY
      generalize BA r1 = x at *
      generalize BA r2 = y at *
      go_enter Tryd.func7, Tryd.ntmps7
      go_wp2_with fail
      refine L1.mono ?_
      rintro e w1 ⟨rfl, b1⟩
      clear L1
      go_wp2_with fail
      refine (LG.out _).mono ?_
      rintro e w2 ⟨rfl, hb2⟩
      have b2 := b1.trans (hb2.mono b1.size)
      go_wp2_with fail
      refine (RB.out _).mono ?_
      rintro e w3 ⟨rfl, hb3⟩
      have b3 := (b2.alloc b2.size _).trans (hb3.mono (b2.alloc b2.size _).size)
      go_wp2
      go_ret
      exact ⟨rfl, b3⟩
end Go.Proofs.YtnpnmhjhohhnjaaDoor.nam
