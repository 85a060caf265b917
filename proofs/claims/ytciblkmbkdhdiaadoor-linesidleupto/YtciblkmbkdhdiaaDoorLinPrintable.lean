/- What lines.printable answers of any record. -/
import Derived.Test.YtciblkmbkdhdiaaDoorLinAny
set_option linter.unusedVariables false
set_option linter.unusedSimpArgs false
namespace Go.Proofs.YtciblkmbkdhdiaaDoor.lin
open Go.RowKit

/-- A slice of strings fs. -/
def FV (w : World) (v : Value) (fs : List ByteArray) : Prop :=
  ∃ a c, v = .slice a fs.length c ∧ (0 < fs.length → ∃ g o, a = some ⟨g, o, none⟩ ∧ ∀ (j : Nat) (x : ByteArray), fs[j]? = some x → w.cell? ⟨g, o + j, none⟩ = some (.string x))
theorem FV.below {w w' : World} {v : Value} {fs : List ByteArray} (h : FV w v fs) {n : Nat} (hb : Below n w w') (hn : w.heap.size ≤ n) : FV w' v fs := by
  obtain ⟨a, c, rfl, hv⟩ := h
  refine ⟨a, c, rfl, fun h => ?_⟩
  obtain ⟨g, o, rfl, hr⟩ := hv h
  exact ⟨g, o, rfl, fun j x hx => (hb.cell (p := ⟨g, o + j, none⟩) (show g < n by have h' : g < w.heap.size := World.block_lt_of_cell? w _ (hr j x hx); omega)).trans (hr j x hx)⟩
/-- Whether a field can be printed; a record. -/
def okF (f : ByteArray) : Bool := !badB f.data.toList && decide (trim f = f)
def headOk (lo hi : Int) (fs : List ByteArray) : Bool := decide (0 ≤ lo) && decide (lo ≤ hi) && decide (hi ≤ 1114111) && decide (0 < fs.length)
def printB (lo hi : Int) (fs : List ByteArray) : Bool := headOk lo hi fs && fs.all okF

set_option maxHeartbeats 1000000 in
set_option maxRecDepth 100000 in
theorem printable_any (lo hi : Int) (fv : Value) (fs : List ByteArray) (w : World) (hv : FV w fv fs) (hn : fs.length ≤ 1099511627776) (hz : ∀ f ∈ fs, f.size ≤ 1073741824) :
    Calls Tryd.prog 32 #[.agg #[.int .i64 lo, .int .i64 hi, fv]] w fun e w' => e = .returned (.bool (printB lo hi fs)) ∧ Below w.heap.size w w' := by
  have HP : Hid (printB lo hi fs = (headOk lo hi fs && fs.all okF)) := rfl
  have HV : Hid (FV w fv fs) := hv
  obtain ⟨fa, fc, rfl, _⟩ := hv
  have al : Hid (∀ o, Below w.heap.size w (w.alloc o)) := fun o => (Below.refl _ w).alloc (Nat.le_refl _) _
  have t0 : (((fs.length : Int)) == 0) = decide (fs.length = 0) := by
    cases h : decide (fs.length = 0) with
    | true => have := of_decide_eq_true h; rw [beq_iff_eq]; omega
    | false => have := of_decide_eq_false h; rw [beq_eq_false_iff_ne]; omega
  cases hh : headOk lo hi fs with
  | false =>
    have hP : printB lo hi fs = false := by rw [HP.out, hh]; rfl
    rw [hP]
    clear hP HP HV
    have HH : Hid (lo < 0 ∨ hi < lo ∨ 1114111 < hi ∨ fs.length = 0) := by
      unfold headOk at hh
      rw [Hid]
      simp at hh
      by_cases h1 : lo < 0
      · exact .inl h1
      · by_cases h2 : hi < lo
        · exact .inr (.inl h2)
        · by_cases h3 : 1114111 < hi
          · exact .inr (.inr (.inl h3))
          · have h4 := hh (by omega) (by omega) (by omega)
            exact .inr (.inr (.inr (by rw [h4]; rfl)))
    clear hh
    by_cases c1 : lo < 0
    · go_enter Tryd.func32, Tryd.ntmps32
      go_wp2
      go_ret
      exact ⟨rfl, al.out _⟩
    · have c1' : (0 : Int) ≤ lo := by omega
      by_cases c2 : hi < lo
      · go_enter Tryd.func32, Tryd.ntmps32
        go_wp2
        go_ret
        exact ⟨rfl, al.out _⟩
      · have c2' : lo ≤ hi := by omega
        by_cases c3 : (1114111 : Int) < hi
        · go_enter Tryd.func32, Tryd.ntmps32
          go_wp2
          go_ret
          exact ⟨rfl, al.out _⟩
        · have c4 : fs.length = 0 := by have := HH.out; omega
          have c3' : hi ≤ 1114111 := by omega
          have t1 : ((fs.length : Int) == 0) = true := by rw [c4]; rfl
          clear t0
          go_enter Tryd.func32, Tryd.ntmps32
          go_wp2
          go_ret
          exact ⟨rfl, al.out _⟩
  | true =>
    have HQ : Hid (printB lo hi fs = fs.all okF) := by rw [Hid, HP.out, hh]; rfl
    have h4 : 0 ≤ lo ∧ lo ≤ hi ∧ hi ≤ 1114111 ∧ 0 < fs.length := by
      unfold headOk at hh
      simpa [and_assoc] using hh
    obtain ⟨c1, c2, c3, c4⟩ := h4
    have c1' : ¬ lo < 0 := by omega
    have c2' : ¬ hi < lo := by omega
    have c3' : ¬ (1114111 : Int) < hi := by omega
    have t1 : ((fs.length : Int) == 0) = false := by rw [beq_eq_false_iff_ne]; omega
    obtain ⟨fa', fc', hfe, hfr⟩ := HV.out
    cases hfe
    obtain ⟨g, o, rfl, hcell⟩ := hfr c4
    have HC : Hid (∀ (j : Nat) (x : ByteArray), fs[j]? = some x → w.cell? ⟨g, o + j, none⟩ = some (.string x)) := hcell
    have HN : Hid (∀ i, i < fs.length → ∃ x, fs[i]? = some x ∧ fs.take (i + 1) = fs.take i ++ [x]) := fun i h => ⟨_, List.getElem?_eq_getElem h, by rw [List.take_add_one, List.getElem?_eq_getElem h]; rfl⟩
    have HZ : Hid (∀ f ∈ fs, f.size ≤ 1073741824) := hz
    clear hh HP t0 hcell hfr HV hz
    go_enter Tryd.func32, Tryd.ntmps32
    go_wp2
    go_loopw [29] (fun i wr => ∃ k : Nat, k ≤ fs.length ∧ i = .int .i64 k ∧ Hid ((fs.take k).all okF = true) ∧ Below w.heap.size w wr) (fun i _ => fs.length - (RowKit.intOf i).toNat)
    case atStart => exact ⟨0, Nat.zero_le _, rfl, rfl, al.out _⟩
    case round =>
      obtain ⟨k, hk, rfl, HA, hbel⟩ := hrel
      by_cases hlt : k < fs.length
      · obtain ⟨x, hx, htk⟩ := HN.out k hlt
        have hlt' : (k : Int) < (fs.length : Int) := by omega
        have hgx : g < w.heap.size := World.block_lt_of_cell? w _ (HC.out k x hx)
        have cx : wr.cell? ⟨g, o + k, none⟩ = some (.string x) := (hbel.cell (p := ⟨g, o + k, none⟩) hgx).trans (HC.out k x hx)
        have hxm := List.mem_of_getElem? hx
        have hxs := HZ.out x hxm
        have CA := contains_any x wr hxs
        have HOK : Hid (okF x = (!badB x.data.toList && decide (trim x = x))) := rfl
        have HS : Hid ((fs.take (k + 1)).all okF = okF x) := by
          rw [Hid, htk, List.all_append, HA.out]
          simp
        have HBAD : Hid (okF x = false → fs.all okF = false) := by
          intro h
          rw [List.all_eq_false]
          exact ⟨x, hxm, by rw [h]; simp⟩
        have TR : Hid (∀ W, Calls Tryd.prog 43 #[.string x, .string ⟨#[32, 9]⟩] W fun e w' => e = .returned (.string (trim x)) ∧ Below W.heap.size W w') := fun W =>
          Tryd.strings_Trim_laid x ⟨#[32, 9]⟩ W (by omega) (by decide) (ascii_of_all (by decide))
        clear hx htk HA
        generalize badB x.data.toList = bb at *
        generalize trim x = tx at *
        go_wp2_with fail
        refine CA.mono ?_
        rintro e w2 ⟨rfl, b2⟩
        clear CA cx
        have b12 := hbel.trans (b2.mono hbel.size)
        cases bb with
        | true =>
          have HF : Hid (fs.all okF = false) := HBAD.out (by rw [HOK.out]; rfl)
          clear HOK HBAD HS TR
          go_wp2
          go_ret
          exact ⟨by rw [HQ.out, HF.out]; rfl, b12⟩
        | false =>
          go_wp2_with fail
          refine (TR.out w2).mono ?_
          rintro e w3 ⟨rfl, b3⟩
          have b13 := b12.trans (b3.mono b12.size)
          clear TR
          by_cases hte : tx = x
          · subst hte
            have HT : Hid ((fs.take (k + 1)).all okF = true) := by rw [Hid, HS.out, HOK.out]; simp
            clear HOK HBAD HS
            go_wp2
            go_roundw
            case rel => exact ⟨k + 1, by omega, by go_num, HT, b13⟩
            case measure => simp [RowKit.intOf]; omega
          · have HF : Hid (fs.all okF = false) := HBAD.out (by rw [HOK.out]; simp [hte])
            have hne : (tx.toList == x.toList) = false := by
              rw [beq_eq_false_iff_ne]
              intro e
              rw [Lib.toList_data, Lib.toList_data] at e
              exact hte (by rw [← BA_list tx, e, BA_list])
            clear HOK HBAD HS
            go_wp2
            go_ret
            exact ⟨by rw [HQ.out, HF.out]; rfl, b13⟩
      · obtain rfl : k = fs.length := by omega
        rw [List.take_length] at HA
        go_wp2
        go_ret
        exact ⟨by rw [HQ.out, HA.out]; rfl, hbel⟩
end Go.Proofs.YtciblkmbkdhdiaaDoor.lin
