/- The walk of UtfForward: from item to item, forward, the items of Decode are met; the item ahead of the end is the last one. -/
import Derived.Test.YtamcaomenbgabaaDoorUtfForward
import Derived.Deep.RegionHeld3
set_option linter.unusedVariables false
set_option linter.unusedSimpArgs false
namespace Go.Proofs.YtamcaomenbgabaaDoor.utf
open Go.RowKit

set_option maxHeartbeats 1000000 in
theorem forward_pos (b off n cap : Nat) (f : Nat → Int) (w : World) (hm : Marks w) (hc : ∀ i, i < n → w.cell? ⟨b, off + i, none⟩ = some (.int .u8 (f i))) (h0 : 0 < n) (hn : n * 24 ≤ 140737488355328) (hcap : n ≤ cap) (hf : ∀ i, 0 ≤ f i ∧ f i ≤ 255) :
    Calls Tryd.prog 3 #[.slice (some ⟨b, off, none⟩) n cap] w fun e w' => e = .returned (.bool true) ∧ Below w.heap.size w w' := by
  have D := decode_pos (some ⟨b, off, none⟩) n cap f w (.inr ⟨b, off, rfl, hc⟩) h0 hn hf
  have hlen := items_le f n (n - 0) 0 rfl
  have hpos := items_pos f n h0
  have HM : Hid (Marks w) := hm
  have HC : Hid (∀ i, i < n → w.cell? ⟨b, off + i, none⟩ = some (.int .u8 (f i))) := hc
  have HF : Hid (∀ i, 0 ≤ f i ∧ f i ≤ 255) := hf
  obtain ⟨⟨Rl, sl, El⟩, hlast⟩ : ∃ x, (items f n 0).getLast? = some x := by
    cases hx : (items f n 0).getLast? with
    | none => rw [List.getLast?_eq_none_iff] at hx; rw [hx] at hpos; simp at hpos
    | some x => exact ⟨x, rfl⟩
  have HLA : Hid ((items f n 0).getLast? = some (Rl, sl, El)) := hlast
  have HLD : Hid ((items f n 0).getD ((items f n 0).length - 1) (0, 0, 0) = (Rl, sl, El)) := by
    have := hlast
    rw [List.getLast?_eq_getElem?] at this
    rw [show Hid _ = _ from rfl, List.getD_eq_getElem?_getD, this]
    rfl
  clear hm hc hf hlast
  go_enter Tryd.func3, Tryd.ntmps3
  go_wp2_with fail
  refine D.mono ?_
  rintro e w1 ⟨g, c, rfl, hown, hb1⟩
  have HI : Hid (IsI w1 g (items f n 0).length _ _ _) := isI_of (n := 0) hown
  have HPV : Hid (∀ w', Below w.heap.size w w' → Calls Tryd.prog 7 #[.slice (some ⟨b, off, none⟩) n cap, .int .i64 n] w' fun e w'' => e = .returned (.tuple #[.agg #[.int .i64 Rl, .int .i64 sl, .int .i64 El], .bool true]) ∧ Below w'.heap.size w' w'') :=
    fun w' hb => prev_yes b off n cap n f Rl sl El w' (fun i hi => (hb.cell (World.block_lt_of_cell? w _ (HC.out i hi))).trans (HC.out i hi)) h0 (Nat.le_refl _) (by omega) hcap HF.out HLA.out
  clear D hown HLA
  generalize hl : items f n 0 = l at *
  have HL' : Hid (l.drop 0 = items f n 0) := by rw [hl]; rfl
  clear hl
  obtain ⟨L, hL⟩ : ∃ L, l.length = L + 1 := ⟨l.length - 1, by omega⟩
  have HLD2 : Hid (l.getD L (0, 0, 0) = (Rl, sl, El)) := by have := HLD.out; rwa [hL, Nat.add_sub_cancel] at this
  have HLL : Hid (l.length = L + 1) := hL
  rw [hL] at hlen ⊢
  clear hL HLD hpos
  have hs1 := hb1.size
  go_wp2
  go_loopw [4, 17] (fun t i wr => ∃ (k a : Nat), k ≤ L + 1 ∧ a ≤ n ∧ i = .int .i64 k ∧ t = .int .i64 a ∧ Hid (l.drop k = items f n a) ∧ Below w1.heap.size w1 wr)
    (fun _ i _ => L + 1 - (intOf i).toNat)
  case atStart => exact ⟨0, 0, Nat.zero_le _, Nat.zero_le _, rfl, rfl, HL', Below.refl _ _⟩
  case round =>
    obtain ⟨k, a, hk, ha, rfl, rfl, HD, hbel⟩ := hrel
    by_cases hlt : k < L + 1
    · obtain ⟨han, hgd, hdr⟩ := drop_step HD.out (by rw [HLL.out]; exact hlt)
      have hie := it_end f n a han
      have hc := (HI.out.below hbel) k (by rw [HLL.out]; exact hlt)
      simp only [hgd] at hc
      obtain ⟨p1, p2, p3⟩ := hc
      have HD2 : Hid (l.drop (k + 1) = items f n (it f n a).2.1) := hdr
      have hb2 := hb1.trans (hbel.mono hs1)
      have c2 := hb2.alloc hb2.size (.cells #[.int .i64 (it f n a).1, .int .i64 a, .int .i64 (it f n a).2.1] 26)
      have NX := next_yes b off n cap f a (wr.alloc (.cells #[.int .i64 (it f n a).1, .int .i64 a, .int .i64 (it f n a).2.1] 26)) (fun i hi => (c2.cell (World.block_lt_of_cell? w _ (HC.out i hi))).trans (HC.out i hi)) han (by omega) HF.out
      have R2 := hbel.alloc hbel.size (.cells #[.int .i64 (it f n a).1, .int .i64 a, .int .i64 (it f n a).2.1] 26)
      clear HD hgd hdr hb2 c2 hbel
      generalize (it f n a).2.1 = E at *
      generalize (it f n a).1 = R at *
      go_wp2_with fail
      refine NX.mono ?_
      rintro e w2 ⟨rfl, hb3⟩
      have x1 := fblk_new hb3
      have l1 := fblk_lt x1
      obtain ⟨q0, q1, q2, _, _, _⟩ := blk3 x1
      have d3 := R2.trans (hb3.mono R2.size)
      have R3 := d3.alloc d3.size (.cells #[.int .i64 R, .int .i64 a, .int .i64 E] 26)
      clear NX hb3 x1 R2 d3
      go_wp2
      go_roundw
      case rel => exact ⟨k + 1, E, by omega, by omega, by go_num, rfl, HD2, R3⟩
      case measure => simp [intOf]; omega
    · have hna := drop_last HD.out (by rw [HLL.out]; omega)
      obtain rfl : a = n := by omega
      have hb2 := hb1.trans (hbel.mono hs1)
      have NN := next_no (some ⟨b, off, none⟩) a cap a wr (.inr (Int.le_refl _))
      have IL := (HI.out.below hbel) L (by rw [HLL.out]; omega)
      simp only [HLD2.out] at IL
      obtain ⟨i0, i1, i2⟩ := IL
      have J0 : Hid (wr.cell? ⟨g, L * 3, none⟩ = some (.int .i64 Rl)) := i0
      have J1 : Hid (wr.cell? ⟨g, L * 3 + 1, none⟩ = some (.int .i64 sl)) := i1
      have J2 : Hid (wr.cell? ⟨g, L * 3 + 1 + 1, none⟩ = some (.int .i64 El)) := i2
      clear HD hbel i0 i1 i2
      go_wp2_with fail
      refine NN.mono ?_
      rintro e w2 ⟨rfl, hb3⟩
      have d3 := hb2.trans (hb3.mono hb2.size)
      have c3 := d3.alloc d3.size (.cells #[.int .i64 0, .int .i64 0, .int .i64 0] 26)
      have b3 := (Below.refl _ wr).trans (hb3.alloc hb3.size (.cells #[.int .i64 0, .int .i64 0, .int .i64 0] 26))
      clear NN hb3 d3
      go_wp2_with fail
      refine (HPV.out _ c3).mono ?_
      rintro e w3 ⟨rfl, hb4⟩
      have d4 := c3.trans (hb4.mono c3.size)
      have b4 := b3.trans (hb4.mono b3.size)
      have c4 := d4.alloc d4.size (.cells #[.int .i64 Rl, .int .i64 sl, .int .i64 El] 26)
      have j0 := (b4.cell (World.block_lt_of_cell? wr _ J0.out)).trans J0.out
      have j1 := (b4.cell (World.block_lt_of_cell? wr _ J1.out)).trans J1.out
      have j2 := (b4.cell (World.block_lt_of_cell? wr _ J2.out)).trans J2.out
      have gl0 : g < w3.heap.size := World.block_lt_of_cell? w3 _ j0
      have AW : Hid (Calls Tryd.prog 8 #[] ((w3.alloc (.cells #[.int .i64 Rl, .int .i64 sl, .int .i64 El] 26)).drew) fun e w' => e = .returned (.bool true) ∧ Below w.heap.size w w' ∧ w'.cell? ⟨w3.heap.size, 0, none⟩ = some (.int .i64 Rl) ∧ w'.cell? ⟨w3.heap.size, 1, none⟩ = some (.int .i64 sl) ∧ w'.cell? ⟨w3.heap.size, 2, none⟩ = some (.int .i64 El) ∧ w'.cell? ⟨g, L * 3, none⟩ = some (.int .i64 Rl) ∧ w'.cell? ⟨g, L * 3 + 1, none⟩ = some (.int .i64 sl) ∧ w'.cell? ⟨g, L * 3 + 1 + 1, none⟩ = some (.int .i64 El)) := by
        have cq : Below w.heap.size w ((w3.alloc (.cells #[.int .i64 Rl, .int .i64 sl, .int .i64 El] 26)).drew) := c4.drew
        refine (awake_any _ (HM.out.below cq)).mono ?_
        rintro e w' ⟨rfl, hb⟩
        refine ⟨rfl, cq.trans (hb.mono cq.size), ?_, ?_, ?_, ?_, ?_, ?_⟩
        · exact (hb.cell (p := ⟨w3.heap.size, 0, none⟩) (by simp)).trans (by simp)
        · exact (hb.cell (p := ⟨w3.heap.size, 1, none⟩) (by simp)).trans (by simp)
        · exact (hb.cell (p := ⟨w3.heap.size, 2, none⟩) (by simp)).trans (by simp)
        · exact (hb.cell (p := ⟨g, L * 3, none⟩) (by simp; omega)).trans ((World.cell?_alloc_past _ g (L * 3) gl0).trans j0)
        · exact (hb.cell (p := ⟨g, L * 3 + 1, none⟩) (by simp; omega)).trans ((World.cell?_alloc_past _ g (L * 3 + 1) gl0).trans j1)
        · exact (hb.cell (p := ⟨g, L * 3 + 1 + 1, none⟩) (by simp; omega)).trans ((World.cell?_alloc_past _ g (L * 3 + 1 + 1) gl0).trans j2)
      clear gl0
      have gl : g < w3.heap.size := World.block_lt_of_cell? w3 _ j0
      have e1 : ((L + 1 : Nat) : Int) - 1 = (L : Int) := by omega
      have e2 : (0 : Int) < ((L + 1 : Nat) : Int) := by omega
      have e3 : IntKind.i64.wrap ((L : Int) + 1 - 1) = (L : Int) := by rw [IntKind.wrap_i64]; omega
      have e4 : IntKind.i64.wrap (((L + 1 : Nat) : Int) - 1) = (L : Int) := by rw [IntKind.wrap_i64]; omega
      have e5 : (0 : Int) ≤ (L : Int) := by omega
      have e6 : (L : Int) < (L : Int) + 1 := by omega
      have e7 : (L : Int) < ((L + 1 : Nat) : Int) := by omega
      have e8 : L < L + 1 := by omega
      have e9 : IntKind.i64.wrap (L : Int) = (L : Int) := by rw [IntKind.wrap_i64]; omega
      clear hb4 d4 b4 b3 c3 HPV HI HC HF HLD2 hb2 hb1 J0 J1 J2
      go_wp2
      go_region_held3 (fun w' => w'.cell? ⟨w3.heap.size, 0, none⟩ = some (.int .i64 Rl) ∧ w'.cell? ⟨w3.heap.size, 1, none⟩ = some (.int .i64 sl) ∧ w'.cell? ⟨w3.heap.size, 2, none⟩ = some (.int .i64 El) ∧ w'.cell? ⟨g, L * 3, none⟩ = some (.int .i64 Rl) ∧ w'.cell? ⟨g, L * 3 + 1, none⟩ = some (.int .i64 sl) ∧ w'.cell? ⟨g, L * 3 + 1 + 1, none⟩ = some (.int .i64 El)) (go_keep)
        (first | (go_at_call 8; refine AW.out.mono ?_; rintro e w' ⟨rfl, hbel, m0, m1, m2, m3, m4, m5⟩))
      all_goals go_wp2
      all_goals go_ret
      all_goals exact ⟨rfl, by assumption⟩

theorem forward_any (ao : Option Addr) (n cap : Nat) (f : Nat → Int) (w : World) (hm : Marks w) (hB : IsB w ao n f) (hn : n * 24 ≤ 140737488355328 ∧ n ≤ cap ∧ cap ≤ 9223372036854775807 ∧ (ao = none → n = 0)) (hf : ∀ i, 0 ≤ f i ∧ f i ≤ 255) :
    Calls Tryd.prog 3 #[.slice ao n cap] w fun e w' => e = .returned (.bool true) ∧ Below w.heap.size w w' := by
  rcases Nat.eq_zero_or_pos n with rfl | h0
  · exact forward_zero ao cap w hm
  · rcases hB with h | ⟨b, off, rfl, hc⟩
    · omega
    · exact forward_pos b off n cap f w hm hc h0 hn.1 hn.2.1 hf
end Go.Proofs.YtamcaomenbgabaaDoor.utf
