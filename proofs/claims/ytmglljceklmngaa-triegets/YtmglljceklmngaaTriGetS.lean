/- What notAhead and Get of a trie of values of type string answer. -/
import Derived.Test.YtmglljceklmngaaTriRunS
set_option linter.unusedVariables false
set_option linter.unusedSimpArgs false
namespace Go.Proofs.Ytmglljceklmngaa.tri.str
open Go.RowKit Go.Proofs.Ytmglljceklmngaa.tri
open Go.Proofs.Ytmglljceklmngaa.rng (ret_int ret_bool below_drewN info_parts own_below')

set_option maxRecDepth 100000 in
set_option maxHeartbeats 4000000 in
theorem notAhead_any (nv : Int) (V : Int → ByteArray) (tb : Nat) (s : List E) (r : Int) (w : World) (ht : TrieIs w V tb s) (hr : Ris nv 0 s) (h0 : 0 < s.length) (hr0 : 0 ≤ r) (hr1 : r ≤ 1114111) :
    Calls Try.prog 31 #[.pointer (some ⟨tb, 0, none⟩), .int .i64 r] w fun e w' => e = .returned (.int .i64 (cntH s r)) ∧ Below w.heap.size w w' := by
  obtain ⟨⟨ra, rc, t0, hv⟩, h3⟩ := ht
  obtain ⟨sb, t1, hst⟩ := h3 h0
  obtain ⟨b, rfl, hc⟩ := hv.some h0
  have HC : Hid (∀ i p, s[i]? = some p → w.cell? ⟨b, i * 3, none⟩ = some (.int .i64 p.1) ∧ w.cell? ⟨b, i * 3 + 1, none⟩ = some (.int .i64 p.2.1) ∧ w.cell? ⟨b, i * 3 + 2, none⟩ = some (.string (V (p.2.2)))) := hc
  have HR : Hid (Ris nv 0 s) := hr
  obtain ⟨B, hB⟩ : ∃ B : Nat, r / 256 = (B : Int) := ⟨(r / 256).toNat, by omega⟩
  have s0 := hst B (by omega)
  have s1 := hst (B + 1) (by omega)
  have l0 : cntH s (256 * (B : Int)) ≤ cntH s r := cntH_mono (by omega)
  have l1 : cntH s r ≤ cntH s (256 * ((B + 1 : Nat) : Int)) := cntH_mono (by omega)
  have l2 := cntH_le s (256 * ((B + 1 : Nat) : Int))
  have hlen := ris_len hr
  obtain ⟨C, hC⟩ : ∃ C, cntH s r = C := ⟨_, rfl⟩
  have HG : Hid (∀ i p, s[i]? = some p → (p.2.1 < r ↔ i < C)) := fun i p hp => by rw [← hC]; exact cntH_get hr hp
  obtain ⟨F, hF⟩ : ∃ F, cntH s (256 * (B : Int)) = F := ⟨_, rfl⟩
  obtain ⟨U, hU⟩ : ∃ U, cntH s (256 * ((B + 1 : Nat) : Int)) = U := ⟨_, rfl⟩
  rw [hC] at l0 l1 ⊢
  rw [hF] at l0 s0
  rw [hU] at l1 l2 s1
  obtain ⟨n, hl⟩ : ∃ n, s.length = n := ⟨_, rfl⟩
  rw [hl] at l2 h0 hlen t0
  have HL : Hid (s.length = n) := hl
  have hb0 : (B : Int) < 4353 := by omega
  have hb1 : (B : Int) + 1 < 4353 := by omega
  have hb2 : (0 : Int) ≤ (B : Int) := by omega
  have hb3 : (0 : Int) ≤ (B : Int) + 1 := by omega
  have hb4 : IntKind.i64.wrap ((B : Int) + 1) = (B : Int) + 1 := by rw [IntKind.wrap_i64]; omega
  have hb5 : ((B : Int) + 1).toNat = B + 1 := by omega
  have hb6 : IntKind.i64.wrap (B : Int) = (B : Int) := by rw [IntKind.wrap_i64]; omega
  clear hst hc hv hr h3 hC hF hU hl
  go_enter Try.func31, Try.ntmps31
  go_wp2
  go_quiet (fail)
  go_wp2
  go_loopw [6, 7] (fun f t wr => ∃ (f' t' q : Nat), f = .int .i64 f' ∧ t = .int .i64 t' ∧ f' ≤ C ∧ C ≤ t' ∧ t' ≤ n ∧ wr = w.drewN q) (fun f t _ => (intOf t).toNat - (intOf f).toNat)
  case atStart => exact ⟨F, U, _, rfl, rfl, l0, l1, l2, rfl⟩
  case round =>
    obtain ⟨f, t, q, rfl, rfl, hf, ht, htn, rfl⟩ := hrel
    by_cases hft : f < t
    · obtain ⟨M, hM⟩ : ∃ M, (f + t) / 2 = M := ⟨_, rfl⟩
      have hdiv : Int.tdiv ((f : Int) + (t : Int)) 2 = (M : Int) := by rw [Int.tdiv_eq_ediv_of_nonneg (by omega), ← hM]; omega
      have hM1 : f ≤ M := by omega
      have hM2 : M < t := by omega
      have hMn : (M : Int) < (n : Int) := by omega
      have hM0 : (0 : Int) ≤ (M : Int) := by omega
      obtain ⟨x, y, z, hp⟩ := get3 HL.out (show M < n by omega)
      obtain ⟨c1, c2, c3⟩ := HC.out M (x, y, z) hp
      simp only at c1 c2 c3
      have hg := HG.out M (x, y, z) hp
      simp only at hg
      clear hp hM
      by_cases hy : y < r
      · have hgm := hg.1 hy
        clear hg
        go_wp2
        go_roundw
        case rel => exact ⟨M + 1, t, q, by go_num, rfl, by omega, ht, htn, rfl⟩
        case measure => simp [intOf]; omega
      · have hgm : ¬ M < C := fun h => hy (hg.2 h)
        clear hg
        go_wp2
        go_roundw
        case rel => exact ⟨f, M, q, rfl, rfl, hf, by omega, by omega, rfl⟩
        case measure => simp [intOf]; omega
    · obtain rfl : f = C := by omega
      go_wp2
      go_ret
      exact ⟨rfl, below_drewN (Below.refl _ _) _⟩

/-- What Get tells. -/
def told (V : Int → ByteArray) (o : Option Int) : Value := match o with | some v => .string (V (v)) | none => .string ⟨#[]⟩
set_option maxHeartbeats 400000 in
theorem get_nil (r : Int) (w : World) :
    Calls Try.prog 13 #[.pointer none, .int .i64 r] w fun e w' => e = .returned (.tuple #[.string ⟨#[]⟩, .bool false]) ∧ w' = w := by
  go_enter Try.func13, Try.ntmps13
  go_wp2
  go_ret2
  exact ⟨rfl, rfl⟩
set_option maxRecDepth 100000 in
set_option maxHeartbeats 4000000 in
theorem get_any (nv : Int) (V : Int → ByteArray) (tb : Nat) (s : List E) (r : Int) (w : World) (ht : TrieIs w V tb s) (hr : Ris nv 0 s) :
    Calls Try.prog 13 #[.pointer (some ⟨tb, 0, none⟩), .int .i64 r] w fun e w' => e = .returned (.tuple #[told V (at_ s r), .bool (at_ s r).isSome]) ∧ Below w.heap.size w w' := by
  have HT : Hid (TrieIs w V tb s) := ht
  obtain ⟨⟨ra, rc, t0, hv⟩, h3⟩ := ht
  have hlen := ris_len hr
  clear h3
  rcases Nat.eq_zero_or_pos s.length with h0 | h0
  · obtain rfl : s = [] := List.eq_nil_of_length_eq_zero h0
    have t0' : w.cell? ⟨tb, 0, none⟩ = some (.slice ra 0 rc) := t0
    clear t0 hv hr hlen h0 HT
    go_enter Try.func13, Try.ntmps13
    go_wp2
    go_ret2
    exact ⟨rfl, Below.refl _ _⟩
  obtain ⟨b, rfl, hc⟩ := hv.some h0
  have NO : (r < 0 ∨ 1114111 < r) → at_ s r = none := fun h => by
    cases he : at_ s r with
    | none => rfl
    | some v => have := at_code hr (Int.le_refl 0) he; omega
  have hnn : ((s.length : Int) == 0) = false := beq_eq_false_iff_ne.2 (by omega)
  by_cases h1 : r < 0
  · rw [NO (.inl h1)]
    clear HT hr NO hc hv
    generalize s.length = n at *
    go_enter Try.func13, Try.ntmps13
    go_wp2
    go_ret2
    exact ⟨rfl, Below.refl _ _⟩
  by_cases h2 : 1114111 < r
  · rw [NO (.inr h2)]
    clear HT hr NO hc hv
    generalize s.length = n at *
    go_enter Try.func13, Try.ntmps13
    go_wp2
    go_ret2
    exact ⟨rfl, Below.refl _ _⟩
  have C := notAhead_any nv V tb s r w HT.out hr h0 (by omega) (by omega)
  have hcl := cntH_le s r
  obtain ⟨I, hI⟩ : ∃ I, cntH s r = I := ⟨_, rfl⟩
  have HAN : Hid (I = s.length → at_ s r = none) := fun h => at_none hr (hI.trans h)
  have HAH : Hid (∀ e, s[I]? = some e → at_ s r = if e.1 ≤ r then some e.2.2 else none) := fun e he => at_here hr (by rw [hI]; exact he)
  have HC : Hid (∀ i p, s[i]? = some p → w.cell? ⟨b, i * 3, none⟩ = some (.int .i64 p.1) ∧ w.cell? ⟨b, i * 3 + 1, none⟩ = some (.int .i64 p.2.1) ∧ w.cell? ⟨b, i * 3 + 2, none⟩ = some (.string (V (p.2.2)))) := hc
  obtain ⟨n, hl⟩ : ∃ n, s.length = n := ⟨_, rfl⟩
  rw [hl] at hcl HAN hlen h0 hnn t0
  have HL : Hid (s.length = n) := hl
  rw [hI] at C hcl
  clear HT hr NO hc hv hI hl
  have tlt : tb < w.heap.size := World.block_lt_of_cell? w _ t0
  by_cases hIn : I = n
  · rw [HAN.out hIn]
    subst hIn
    have hii : ((I : Int) == (I : Int)) = true := by simp
    go_enter Try.func13, Try.ntmps13
    go_wp2_with fail
    refine C.mono ?_
    rintro e w1 ⟨rfl, hb⟩
    have t1 := (hb.cell (p := ⟨tb, 0, none⟩) tlt).trans t0
    clear C t0
    go_wp2
    go_ret2
    exact ⟨rfl, hb⟩
  · obtain ⟨x, y, z, hp⟩ := get3 HL.out (show I < n by omega)
    obtain ⟨c1, c2, c3⟩ := HC.out I (x, y, z) hp
    simp only at c1 c2 c3
    have blt : b < w.heap.size := World.block_lt_of_cell? w _ c1
    have hat := HAH.out (x, y, z) hp
    simp only at hat
    have hii : ((I : Int) == (n : Int)) = false := beq_eq_false_iff_ne.2 (by omega)
    have hIn' : (I : Int) < (n : Int) := by omega
    have hI0 : (0 : Int) ≤ (I : Int) := by omega
    clear hp HAN HAH HC
    by_cases hx : x ≤ r
    · rw [hat, if_pos hx]
      clear hat
      go_enter Try.func13, Try.ntmps13
      go_wp2_with fail
      refine C.mono ?_
      rintro e w1 ⟨rfl, hb⟩
      have t1 := (hb.cell (p := ⟨tb, 0, none⟩) tlt).trans t0
      have d1 := (hb.cell (p := ⟨b, I * 3, none⟩) blt).trans c1
      have d3 := (hb.cell (p := ⟨b, I * 3 + 2, none⟩) blt).trans c3
      clear C t0 c1 c2 c3
      go_wp2
      go_ret2
      exact ⟨rfl, hb⟩
    · rw [hat, if_neg hx]
      clear hat
      go_enter Try.func13, Try.ntmps13
      go_wp2_with fail
      refine C.mono ?_
      rintro e w1 ⟨rfl, hb⟩
      have t1 := (hb.cell (p := ⟨tb, 0, none⟩) tlt).trans t0
      have d1 := (hb.cell (p := ⟨b, I * 3, none⟩) blt).trans c1
      clear C t0 c1 c2 c3
      go_wp2
      go_ret2
      exact ⟨rfl, hb⟩
end Go.Proofs.Ytmglljceklmngaa.tri.str
