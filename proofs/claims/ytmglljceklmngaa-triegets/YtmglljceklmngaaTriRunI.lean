/- Runs of values of type int in memory; what trie.startsOf answers: of each block how many runs end ahead of it. -/
import Derived.Test.YtmglljceklmngaaTriJoin
import Derived.Deep.OwnRows
set_option linter.unusedVariables false
set_option linter.unusedSimpArgs false
namespace Go.Proofs.Ytmglljceklmngaa.tri.num
open Go.RowKit Go.Proofs.Ytmglljceklmngaa.tri
open Go.Proofs.Ytmglljceklmngaa.rng (ret_int ret_bool below_drewN info_parts own_below')

/-- The cells of runs; V: the value that stands at a place. -/
def flat (V : Int → Int) (l : List E) : List Value := l.flatMap fun p => [.int .i64 p.1, .int .i64 p.2.1, .int .i64 (V (p.2.2))]
theorem flat_cons (V : Int → Int) (p : E) (l : List E) : flat V (p :: l) = .int .i64 p.1 :: .int .i64 p.2.1 :: .int .i64 (V (p.2.2)) :: flat V l := rfl
theorem flat_append (V : Int → Int) (l r : List E) : flat V (l ++ r) = flat V l ++ flat V r := by simp [flat]
theorem flat_three (V : Int → Int) (x y z : Int) : flat V [(x, y, z)] = [.int .i64 x, .int .i64 y, .int .i64 (V (z))] := rfl
theorem flat_length (V : Int → Int) (l : List E) : (flat V l).length = l.length * 3 := by
  induction l with
  | nil => rfl
  | cons x l ih => rw [flat_cons]; simp; omega
theorem flat_get (V : Int → Int) : ∀ (l : List E) (i : Nat) (p : E), l[i]? = some p → (flat V l)[i * 3]? = some (.int .i64 p.1) ∧ (flat V l)[i * 3 + 1]? = some (.int .i64 p.2.1) ∧ (flat V l)[i * 3 + 2]? = some (.int .i64 (V (p.2.2)))
  | [], i, p, h => by simp at h
  | x :: l, 0, p, h => by simp at h; subst h; exact ⟨rfl, rfl, rfl⟩
  | x :: l, i + 1, p, h => by
    have := flat_get V l i p (by simpa using h)
    rw [flat_cons, show (i + 1) * 3 = i * 3 + 1 + 1 + 1 from by omega]
    simpa using this
/-- The runs l can be read from the address on. -/
def RV (w : World) (V : Int → Int) (ao : Option Addr) (l : List E) : Prop :=
  l = [] ∨ ∃ b, ao = some ⟨b, 0, none⟩ ∧ ∀ i p, l[i]? = some p → w.cell? ⟨b, i * 3, none⟩ = some (.int .i64 p.1) ∧ w.cell? ⟨b, i * 3 + 1, none⟩ = some (.int .i64 p.2.1) ∧ w.cell? ⟨b, i * 3 + 2, none⟩ = some (.int .i64 (V (p.2.2)))
theorem RV.below {w w' : World} {V : Int → Int} {ao : Option Addr} {l : List E} (h : RV w V ao l) (hb : Below w.heap.size w w') : RV w' V ao l := by
  rcases h with h | ⟨b, rfl, h⟩
  · exact .inl h
  · exact .inr ⟨b, rfl, fun i p hi => by
      obtain ⟨h1, h2, h3⟩ := h i p hi
      exact ⟨(hb.cell (World.block_lt_of_cell? w _ h1)).trans h1, (hb.cell (World.block_lt_of_cell? w _ h2)).trans h2, (hb.cell (World.block_lt_of_cell? w _ h3)).trans h3⟩⟩
theorem RV.some {w : World} {V : Int → Int} {ao : Option Addr} {l : List E} (h : RV w V ao l) (h0 : 0 < l.length) : ∃ b, ao = some ⟨b, 0, none⟩ ∧ ∀ i p, l[i]? = Option.some p → w.cell? ⟨b, i * 3, none⟩ = Option.some (.int .i64 p.1) ∧ w.cell? ⟨b, i * 3 + 1, none⟩ = Option.some (.int .i64 p.2.1) ∧ w.cell? ⟨b, i * 3 + 2, none⟩ = Option.some (.int .i64 (V (p.2.2))) := by
  rcases h with rfl | h
  · simp at h0
  · exact h
/-- v is a row of the call's own, of runs l. -/
def Own (w : World) (base : Nat) (V : Int → Int) (v : Value) (l : List E) : Prop := w.ownsRow base 72 3 v l.length (flat V l)
theorem Own.view {w : World} {B : Nat} {V : Int → Int} {v : Value} {l : List E} (h : Own w B V v l) : ∃ ao cap, v = .slice ao l.length cap ∧ RV w V ao l ∧ (ao = none → cap = 0) := by
  rcases h.2 with ⟨rfl, h0⟩ | ⟨g, cap, cur, rfl, hg, hgg, hc, hm, hs, ht⟩
  · exact ⟨none, 0, by rw [h0], .inl (List.eq_nil_of_length_eq_zero h0), fun _ => rfl⟩
  · refine ⟨_, cap, rfl, .inr ⟨g, rfl, fun i p hi => ?_⟩, fun e => by cases e⟩
    obtain ⟨e1, e2, e3⟩ := flat_get V l i p hi
    have hil : i < l.length := (List.getElem?_eq_some_iff.1 hi).1
    have h' : w.ownsRow B 72 3 (.slice (some ⟨g, 0, none⟩) l.length cap) l.length (flat V l) := h
    exact ⟨(h'.cellAt _ (by omega)).trans e1, (h'.cellAt _ (by omega)).trans e2, (h'.cellAt _ (by omega)).trans e3⟩

theorem infoInt : (Try.prog.info? 3).map (fun i => (i.zero, i.size, i.bytes)) = some (some (.int .i64 0), 1, 8) := by kernel_rfl
set_option maxRecDepth 100000 in
set_option maxHeartbeats 4000000 in
theorem starts_any (nv : Int) (V : Int → Int) (ao : Option Addr) (cap : Nat) (s : List E) (w : World) (hv : RV w V ao s) (hr : Ris nv 0 s) (h0 : 0 < s.length) :
    Calls Try.prog 32 #[.slice ao s.length cap] w fun e w' => ∃ b, e = .returned (.slice (some ⟨b, 0, none⟩) 4353 4353) ∧ w.heap.size ≤ b ∧ w'.rowIs b 3 4353 (fun j => .int .i64 (cntH s (256 * (j : Int)))) ∧ Below w.heap.size w w' := by
  have hmk := run_make_row' (P := Try.prog) 24 3 (.int .i64 0) 8 Try.underlying24 infoInt rfl .i64 .i64 4353 (by decide) (by decide) w
  have hrow := World.rowIs_made w (.int .i64 0) 4353 3
  have hb1 := (Below.refl w.heap.size w).alloc (Nat.le_refl _) (.cells (madeCells #[.int .i64 0] 4353) 3)
  have hsz : (w.alloc (.cells (madeCells #[.int .i64 0] 4353) 3)).heap.size = w.heap.size + 1 := by simp
  generalize w.alloc (.cells (madeCells #[.int .i64 0] 4353) 3) = w1 at hmk hrow hb1 hsz
  have e4 : ((4353 : Nat) : Int) = 4353 := rfl
  rw [e4] at hmk
  have HROW : Hid (w1.rowIs w.heap.size 3 4353 (fun _ => .int .i64 0)) := hrow
  have HV : Hid (RV w V ao s) := hv
  have HR : Hid (Ris nv 0 s) := hr
  have hlen := ris_len hr
  obtain ⟨n, hl⟩ : ∃ n, s.length = n := ⟨_, rfl⟩
  rw [hl] at h0 hlen ⊢
  have HL : Hid (s.length = n) := hl
  have hn0 : ((n : Int) == 0) = false := by simp; omega
  clear hv hr hl hrow e4
  go_enter Try.func32, Try.ntmps32
  go_wp2
  go_loopw [4, 12] (fun ed i wr => ∃ (k e : Nat) (f : Nat → Value), k ≤ 4353 ∧ i = .int .i64 k ∧ ed = .int .i64 e ∧ e ≤ n ∧ Hid (e ≤ cntH s (256 * (k : Int))) ∧ Hid (∀ j, j < k → f j = .int .i64 (cntH s (256 * (j : Int)))) ∧ Hid (wr.rowIs w.heap.size 3 4353 f) ∧ Below w.heap.size w wr) (fun _ i _ => 4353 - (intOf i).toNat)
  case atStart => exact ⟨0, 0, _, Nat.zero_le _, rfl, rfl, Nat.zero_le _, Nat.zero_le _, fun j hj => by omega, HROW, hb1⟩
  case round =>
    obtain ⟨k, e, f, hk, rfl, rfl, hen, HE, HFk, HRW, hbel⟩ := hrel
    clear hmk HROW hb1 hsz
    by_cases hlt : k < 4353
    · have hklt : (k : Int) < 4353 := by omega
      have hk0 : (0 : Int) ≤ k := by omega
      have hshl : ((k : Int) <<< (8 : Nat)) = 256 * (k : Int) := by rw [Int.shiftLeft_eq]; omega
      have hcell := HRW.out.cell hlt
      have hfrz := HRW.out.frozen k
      generalize wr = w3 at *
      go_wp2
      go_loopw [4] (fun ed wr => ∃ (e : Nat), ed = .int .i64 e ∧ e ≤ n ∧ Hid (e ≤ cntH s (256 * (k : Int))) ∧ wr = w3) (fun ed _ => n - (intOf ed).toNat)
      case atStart => exact ⟨e, rfl, hen, HE, rfl⟩
      case round =>
        obtain ⟨e, rfl, hen, HE, rfl⟩ := hrel
        have FIN : Hid (cntH s (256 * (k : Int)) ≤ e → (∀ j, j < k + 1 → (fun j => if j = k then Value.int .i64 (e : Int) else f j) j = .int .i64 (cntH s (256 * (j : Int)))) ∧ e ≤ cntH s (256 * ((k + 1 : Nat) : Int))) := fun hle => by
          have hee : e = cntH s (256 * (k : Int)) := Nat.le_antisymm HE.out hle
          refine ⟨fun j hj => ?_, ?_⟩
          · by_cases hjk : j = k
            · subst hjk; simp only [if_true]; rw [hee]
            · simp only [if_neg hjk]; exact HFk.out j (by omega)
          · rw [hee]; exact cntH_mono (by omega)
        have RS : Hid ((wr.setCell ⟨w.heap.size, k, none⟩ (.int .i64 (e : Int))).rowIs w.heap.size 3 4353 (fun j => if j = k then Value.int .i64 (e : Int) else f j)) := HRW.out.set k _
        have R2 := hbel.setCell (p := ⟨w.heap.size, k, none⟩) (Nat.le_refl _) (.int .i64 (e : Int))
        by_cases hen2 : e < n
        · obtain ⟨x, y, z, hp⟩ := get3 HL.out hen2
          obtain ⟨b, rfl, hc⟩ := (HV.out.below hbel).some (by have := HL.out; omega)
          obtain ⟨c1, c2, c3⟩ := hc e (x, y, z) hp
          simp only at c1 c2 c3
          have HG := cntH_get (x := 256 * (k : Int)) HR.out hp
          simp only at HG
          by_cases ht : y < 256 * (k : Int)
          · have HE2 : Hid (e + 1 ≤ cntH s (256 * (k : Int))) := HG.1 ht
            clear FIN RS R2 hc hp HG
            go_wp2
            go_roundw
            case rel => exact ⟨e + 1, by go_num, by omega, HE2, by first | trivial | rfl⟩
            case measure => simp [intOf]; omega
          · have FF := FIN.out (Nat.le_of_not_lt fun h => ht (HG.2 h))
            have HF1 : Hid (∀ j, j < k + 1 → (fun j => if j = k then Value.int .i64 (e : Int) else f j) j = .int .i64 (cntH s (256 * (j : Int)))) := FF.1
            have HF2 : Hid (e ≤ cntH s (256 * ((k + 1 : Nat) : Int))) := FF.2
            clear FIN FF hc hp HG
            go_wp2
            go_roundw
            case rel => exact ⟨k + 1, e, _, by omega, by go_num, rfl, hen, HF2, HF1, RS, R2⟩
            case measure => simp [intOf]; omega
        · have FF := FIN.out (by have := cntH_le s (256 * (k : Int)); have := HL.out; omega)
          have HF1 : Hid (∀ j, j < k + 1 → (fun j => if j = k then Value.int .i64 (e : Int) else f j) j = .int .i64 (cntH s (256 * (j : Int)))) := FF.1
          have HF2 : Hid (e ≤ cntH s (256 * ((k + 1 : Nat) : Int))) := FF.2
          clear FIN FF
          go_wp2
          go_roundw
          case rel => exact ⟨k + 1, e, _, by omega, by go_num, rfl, hen, HF2, HF1, RS, R2⟩
          case measure => simp [intOf]; omega
    · go_wp2
      go_ret
      exact ⟨_, rfl, Nat.le_refl _, HRW.out.congr (fun j hj => HFk.out j (by omega)), hbel⟩
set_option maxHeartbeats 400000 in
theorem starts_none (cap : Nat) (ao : Option Addr) (w : World) :
    Calls Try.prog 32 #[.slice ao 0 cap] w fun e w' => e = .returned (.slice none 0 0) ∧ w' = w := by
  go_enter Try.func32, Try.ntmps32
  go_wp2
  go_ret
  exact ⟨rfl, rfl⟩
/-- The values: V tells which one stands at a place. -/
def Vals (w : World) (V : Int → Int) (va : Option Addr) (n : Nat) : Prop := n = 0 ∨ ∃ b off, va = some ⟨b, off, none⟩ ∧ ∀ i : Nat, i < n → w.cell? ⟨b, off + i, none⟩ = some (.int .i64 (V ((i : Int))))
theorem Vals.below {w w' : World} {V : Int → Int} {va : Option Addr} {n : Nat} (h : Vals w V va n) (hb : Below w.heap.size w w') : Vals w' V va n := by
  rcases h with h | ⟨b, off, rfl, h⟩
  · exact .inl h
  · exact .inr ⟨b, off, rfl, fun i hi => (hb.cell (World.block_lt_of_cell? w _ (h i hi))).trans (h i hi)⟩
/-- In block tb lies a trie of the runs s. -/
structure TrieIs (w : World) (V : Int → Int) (tb : Nat) (s : List E) : Prop where
  runs : ∃ ra rc, w.cell? ⟨tb, 0, none⟩ = some (.slice ra s.length rc) ∧ RV w V ra s
  starts : 0 < s.length → ∃ sb, w.cell? ⟨tb, 1, none⟩ = some (.slice (some ⟨sb, 0, none⟩) 4353 4353) ∧ ∀ j, j < 4353 → w.cell? ⟨sb, j, none⟩ = some (.int .i64 (cntH s (256 * (j : Int))))
theorem TrieIs.below {w w' : World} {V : Int → Int} {tb : Nat} {s : List E} (h : TrieIs w V tb s) (hb : Below w.heap.size w w') : TrieIs w' V tb s := by
  obtain ⟨⟨ra, rc, h1, h2⟩, h3⟩ := h
  refine ⟨⟨ra, rc, (hb.cell (World.block_lt_of_cell? w _ h1)).trans h1, h2.below hb⟩, fun h0 => ?_⟩
  obtain ⟨sb, h4, h5⟩ := h3 h0
  exact ⟨sb, (hb.cell (World.block_lt_of_cell? w _ h4)).trans h4, fun j hj => (hb.cell (World.block_lt_of_cell? w _ (h5 j hj))).trans (h5 j hj)⟩
end Go.Proofs.Ytmglljceklmngaa.tri.num
