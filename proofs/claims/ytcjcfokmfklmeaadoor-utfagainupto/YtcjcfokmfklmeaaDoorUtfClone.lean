/- What bytes.Clone answers of a row of bytes: a row of the same bytes; and the walk of UtfDecodes. -/
import Derived.Test.YtcjcfokmfklmeaaDoorUtfRef
import Derived.Test.YtcjcfokmfklmeaaDoorUtfBytes
import Derived.Test.YtcjcfokmfklmeaaDoorUtfEqual
import Derived.Lib.SliceRun
set_option linter.unusedVariables false
set_option linter.unusedSimpArgs false
namespace Go.Proofs.YtcjcfokmfklmeaaDoor.utf
open Go.RowKit

theorem infoByte : (Tryd.prog.info? 5).map (fun i => (i.zero, i.size, i.bytes)) = some (some (.int .u8 0), 1, 1) := by kernel_rfl

/-- The first n bytes as a list. -/
def lst (f : Nat → Int) (n : Nat) : List Int := (List.range n).map f
theorem lst_length (f : Nat → Int) (n : Nat) : (lst f n).length = n := by simp [lst]
theorem lst_get (f : Nat → Int) (n i : Nat) (h : i < n) : (lst f n).getD i 0 = f i := by simp [lst, List.getD, h]
theorem lst_get? (f : Nat → Int) (n i : Nat) (h : i < n) : ((lst f n).map (Value.int .u8))[i]? = some (.int .u8 (f i)) := by simp [lst, h]

theorem bts_isB {w : World} {ao : Option Addr} {n : Nat} {f : Nat → Int} (cap : Nat) (h : IsB w ao n f) (hnil : ao = none → n = 0) : Bts w (.slice ao n cap) (lst f n) := by
  rcases h with rfl | ⟨b, off, rfl, hc⟩
  · cases ao with
    | none => exact bts_nil w 0 cap
    | some x =>
      obtain ⟨b, off, s⟩ := x
      have h0 : (loadCells ⟨b, off, s⟩ 0).run Tryd.prog w = .ok #[] w := by
        have := run_loadCells_list (P := Tryd.prog) w ⟨b, off, s⟩ [] (fun j v hj => by simp at hj)
        simpa using this
      unfold Bts
      rw [run_convert_bytes_string w 22 9 5 _ 0 cap Tryd.underlying22 Tryd.underlying5 Tryd.underlying9]
      rw [run_bytesToString w _ 0 cap [] (by simpa using h0)]
      rfl
  · have := bts_cells (w := w) (b := b) (off := off) (xs := lst f n) cap (fun i hi => by
      rw [lst_length] at hi
      rw [lst_get f n i hi]; exact hc i hi)
    rw [lst_length] at this
    exact this

theorem isB_own {w : World} {B n : Nat} {v : Value} {f : Nat → Int} (h : w.ownsRow B 5 1 v n ((lst f n).map (Value.int .u8))) :
    ∃ ao cap, v = .slice ao n cap ∧ IsB w ao n f ∧ n ≤ cap ∧ cap ≤ 9223372036854775807 ∧ (ao = none → n = 0) := by
  rcases h.2 with ⟨rfl, rfl⟩ | ⟨g, cap, cur, rfl, _, _, hc, hm, _⟩
  · exact ⟨none, 0, rfl, .inl rfl, by omega, by omega, fun _ => rfl⟩
  · unfold maxLen at hm
    exact ⟨some ⟨g, 0, none⟩, cap, rfl, .inr ⟨g, 0, rfl, fun i hi => by rw [Nat.zero_add]; exact (h.cellAt i (by omega)).trans (lst_get? f n i hi)⟩, hc, by omega, fun h => by simp at h⟩

theorem clone_nil (cap : Nat) (w : World) :
    Calls Tryd.prog 9 #[.slice none 0 cap] w fun e w' => e = .returned (.slice none 0 0) ∧ w' = w := by
  have he := fun (w : World) (a : Option Addr) (n c : Nat) => Lib.run_eql_slice_nil (P := Tryd.prog) w 22 5 a n c 0 0 Tryd.underlying22
  go_enter Tryd.func9, Tryd.ntmps9
  go_wp2
  go_ret
  exact ⟨rfl, rfl⟩

theorem clone_some (ad : Addr) (n cap : Nat) (f : Nat → Int) (w : World) (hB : IsB w (some ad) n f) (hn : n ≤ 140737488355328) :
    Calls Tryd.prog 9 #[.slice (some ad) n cap] w fun e w' => ∃ v, e = .returned v ∧ w'.ownsRow w.heap.size 5 1 v n ((lst f n).map (Value.int .u8)) ∧ Below w.heap.size w w' := by
  obtain ⟨i0, hi, hz0, hz1, hz2⟩ := info_parts infoByte
  have he := fun (w : World) (a : Option Addr) (n c : Nat) => Lib.run_eql_slice_nil (P := Tryd.prog) w 22 5 a n c 0 0 Tryd.underlying22
  have HN : Hid (∀ (o : Obj) (j : Nat) (u : Value), ((lst f n).map (Value.int .u8))[j]? = some u → (w.alloc o).cell? (ad.add j) = some u) := by
    intro o j u hj
    have hjn : j < n := by
      rcases Nat.lt_or_ge j n with h | h
      · exact h
      · rw [List.getElem?_eq_none (by simpa [lst] using h)] at hj; simp at hj
    rw [lst_get? f n j hjn] at hj
    rcases hB with h0 | ⟨b, off, hbo, hc⟩
    · omega
    · simp only [Option.some.injEq] at hbo
      subst hbo
      rw [Addr.add_lit, ← hj]
      exact cells_alloc hc o j hjn
  clear hB
  go_enter Tryd.func9, Tryd.ntmps9
  go_wp2_with (at_builtin; refine wpList_append_own _ rfl _ _ 22 rfl w.heap.size 5 i0 (.int .u8 0) 1 1 Tryd.underlying22 hi hz0 hz1 hz2 rfl (by decide) _ _ _ rfl (World.ownsRow_lit (base := w.heap.size) (e := 5) (size := 1) w #[] 0 (Nat.le_refl _) (by decide) rfl) ad n cap ((lst f n).map (Value.int .u8)) rfl ?c0 ?c1 ?c2 ?c3 ?c4 ?c5 ?_)
  case c0 => simp [lst]
  case c1 => exact HN.out _
  case c2 => intro u hu; simp at hu; obtain ⟨x, _, rfl⟩ := hu; rfl
  case c3 => unfold maxLen; omega
  case c4 => omega
  case c5 => simp
  · intro v' w1 hown hgrow _
    have R2 := Below.grown ((Below.refl w.heap.size w).alloc (Nat.le_refl _) (.cells #[] 5)) hgrow (by simp) (fun k hk => by simp [Value.ownBlock] at hk; omega)
    have R1 : w1.ownsRow w.heap.size 5 1 v' n ((lst f n).map (Value.int .u8)) := by simpa using hown
    clear hown hgrow
    go_wp2
    go_ret
    exact ⟨_, rfl, R1, R2⟩

/-- A clone reads as the row that it is of. -/
theorem clone_any (ao : Option Addr) (n cap : Nat) (f : Nat → Int) (w : World) (hB : IsB w ao n f) (hnil : ao = none → n = 0) (hn : n ≤ 140737488355328) :
    Calls Tryd.prog 9 #[.slice ao n cap] w fun e w' => ∃ ao' cap', e = .returned (.slice ao' n cap') ∧ IsB w' ao' n f ∧ n ≤ cap' ∧ cap' ≤ 9223372036854775807 ∧ (ao' = none → n = 0) ∧ Below w.heap.size w w' := by
  cases ao with
  | none =>
    obtain rfl := hnil rfl
    refine (clone_nil cap w).mono ?_
    rintro e w' ⟨rfl, rfl⟩
    exact ⟨none, 0, rfl, .inl rfl, by omega, by omega, fun _ => rfl, Below.refl _ _⟩
  | some ad =>
    refine (clone_some ad n cap f w hB hn).mono ?_
    rintro e w' ⟨v, rfl, hown, hb⟩
    obtain ⟨ao', cap', rfl, h1, h2, h3, h4⟩ := isB_own hown
    exact ⟨ao', cap', rfl, h1, h2, h3, h4, hb⟩

theorem eq_self (b : Bool) : (b == b) = true := by cases b <;> rfl

set_option maxHeartbeats 400000 in
theorem decodes_any (ao : Option Addr) (n cap : Nat) (f : Nat → Int) (w : World) (hm : Marks w) (hB : IsB w ao n f) (hn : n * 24 ≤ 140737488355328 ∧ n ≤ cap ∧ cap ≤ 9223372036854775807 ∧ (ao = none → n = 0)) (hf : ∀ i, 0 ≤ f i ∧ f i ≤ 255) :
    Calls Tryd.prog 3 #[.slice ao n cap] w fun e w' => e = .returned (.bool true) ∧ Below w.heap.size w w' := by
  obtain ⟨hn, hcap, hcm, hnil⟩ := hn
  have HM : Hid (Marks w) := hm
  have HB : Hid (IsB w ao n f) := hB
  have HF : Hid (∀ i, 0 ≤ f i ∧ f i ≤ 255) := hf
  have HN : Hid (ao = none → n = 0) := hnil
  have C := clone_any ao n cap f w hB hnil (by omega)
  clear hm hB hf hnil
  go_enter Tryd.func3, Tryd.ntmps3
  go_wp2_with fail
  refine C.mono ?_
  rintro e w1 ⟨ag, cg, rfl, hBg, hcg, hcgm, hng, hb1⟩
  have HBg : Hid (IsB w1 ag n f) := hBg
  have HNg : Hid (ag = none → n = 0) := hng
  clear C hBg hng
  go_wp2_with fail
  refine (decode_any ag n cg f w1 HBg.out hn HF.out).mono ?_
  rintro e w2 ⟨v1, rfl, ho1, hb2⟩
  have hb2' := hb1.trans (hb2.mono hb1.size)
  have HBg2 : Hid (IsB w2 ag n f) := HBg.out.below hb2
  clear HBg hb2
  go_wp2_with fail
  refine (rdecode_any ao n cap f w2 (HB.out.below hb2') hn hcap hcm HF.out).mono ?_
  rintro e w3 ⟨v2, rfl, ho2, hb3⟩
  have hb3' := hb2'.trans (hb3.mono hb2'.size)
  have HBg3 : Hid (IsB w3 ag n f) := HBg2.out.below hb3
  have ho1' := own_below ho1 hb3
  clear HBg2 ho1 hb3 hb2' hb1
  go_wp2_with fail
  refine (equal_own w3 ho1' ho2).mono ?_
  rintro e w4 ⟨rfl, hb4⟩
  have hb4' := hb3'.trans (hb4.mono hb3'.size)
  have HBg4 : Hid (IsB w4 ag n f) := HBg3.out.below hb4
  clear HBg3 ho1' ho2 hb3' hb4
  go_wp2_with fail
  refine (valid_any ag n cg f w4 HBg4.out (by omega) HF.out).mono ?_
  rintro e w5 ⟨rfl, hb5⟩
  have hb5' := hb4'.trans (hb5.mono hb4'.size)
  have HBg5 : Hid (IsB w5 ag n f) := HBg4.out.below hb5
  clear HBg4 hb4' hb5
  go_wp2_with fail
  refine (rvalid_any ao n cap f w5 (HB.out.below hb5') (by omega) hcap hcm HF.out).mono ?_
  rintro e w6 ⟨rfl, hb6⟩
  have hb6' := hb5'.trans (hb6.mono hb5'.size)
  have B1 := bts_isB cg (HBg5.out.below hb6) HNg.out
  have B2 := bts_isB cap (HB.out.below hb6') HN.out
  have EQ := beq_same _ _ _ _ B1 B2
  have AW := awake_any w6 (HM.out.below hb6')
  have e0 := eq_self (valid f n 0)
  clear HBg5 hb5' hb6 B1 B2
  generalize valid f n 0 = V at *
  go_wp2_with (first
    | (go_at_call 15; refine EQ.mono ?_; rintro e w' ⟨rfl, hw⟩; subst hw)
    | (go_at_call 16; refine AW.mono ?_; rintro e w' ⟨rfl, hbel⟩))
  go_ret
  exact ⟨rfl, hb6'.trans (Below.mono (by assumption) hb6'.size)⟩
end Go.Proofs.YtcjcfokmfklmeaaDoor.utf
