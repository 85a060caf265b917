/- The walk of TrieNobody. -/
import Derived.Test.YtmglljceklmngaaTriCalls
import Derived.Test.YtmglljceklmngaaTriSameS
set_option linter.unusedVariables false
set_option linter.unusedSimpArgs false
namespace Go.Proofs.Ytmglljceklmngaa.tri
open Go.RowKit
open Go.Proofs.Ytmglljceklmngaa.rng (ret_int ret_bool below_drewN info_parts own_below' IsSet)

theorem ris_zero {s : List E} (h : Ris 0 0 s) : s = [] := by
  cases s with
  | nil => rfl
  | cons e l => obtain ⟨_, _, _, h4, h5, _⟩ := h; omega
theorem set_none {r : List rng.R} (h : IsSet r (fun x => match at_ [] x with | some i => (fun _ : Int => (⟨#[]⟩ : ByteArray)) i == (⟨#[]⟩ : ByteArray) | none => false)) : r = [] :=
  h.eq (s := []) (g := fun _ => false) ⟨trivial, fun x _ => rng.has_nil x⟩ (fun x _ => rfl)

/-- A trie with no run answers nothing. -/
theorem nobody_any (tb : Nat) (r : Int) (w : World) (ht : str.TrieIs w (fun _ => ⟨#[]⟩) tb []) :
    Calls Try.prog 13 #[.pointer (some ⟨tb, 0, none⟩), .int .i64 r] w fun e w' => e = .returned (.tuple #[.string ⟨#[]⟩, .bool false]) ∧ Below w.heap.size w w' :=
  str.get_any 0 _ tb [] r w ht trivial
theorem nobody_ranges (tb : Nat) (w : World) (ht : str.TrieIs w (fun _ => ⟨#[]⟩) tb []) :
    Calls Try.prog 26 #[.pointer (some ⟨tb, 0, none⟩), .string ⟨#[]⟩] w fun e w' => ∃ ao cap, e = .returned (.slice ao 0 cap) ∧ Below w.heap.size w w' := by
  refine (str.ranges_any 0 _ tb [] ⟨#[]⟩ w ht trivial).mono ?_
  rintro e w' ⟨v', r, rfl, ho, hs, hb⟩
  obtain rfl := set_none hs
  obtain ⟨ao, cap, rfl, _⟩ := ho.view
  exact ⟨ao, cap, rfl, hb⟩

set_option maxRecDepth 10000 in
set_option maxHeartbeats 4000000 in
theorem law_nobody (r : Int) (w : World) :
    Calls Try.prog 7 #[.int .i64 r] w fun e w' => e = .returned (.bool true) ∧ Below w.heap.size w w' := by
  have B0 := (Below.refl w.heap.size w).alloc (Nat.le_refl _) (.cells #[.slice none 0 0, .slice none 0 0] 60)
  have T0 : str.TrieIs (w.alloc (.cells #[.slice none 0 0, .slice none 0 0] 60)) (fun _ => ⟨#[]⟩) w.heap.size [] :=
    ⟨⟨none, 0, by simp, .inl rfl⟩, fun h => by simp at h⟩
  have C := str.build_any (fun _ => ⟨#[]⟩) none none 0 0 0 [] (w.alloc (.cells #[.slice none 0 0, .slice none 0 0] 60)) (by decide) (.inl rfl) (.inl rfl)
  have e0 : ([] : List E).length = 0 := rfl
  rw [e0] at C
  have HT0 : Hid (str.TrieIs (w.alloc (.cells #[.slice none 0 0, .slice none 0 0] 60)) (fun _ => ⟨#[]⟩) w.heap.size []) := T0
  clear T0 e0
  go_enter Try.func7, Try.ntmps7
  go_wp2_with fail
  refine C.mono ?_
  rintro e w1 ⟨tb, s, rfl, ht, hr, hat, hb⟩
  obtain rfl := ris_zero hr
  have B1 := B0.trans (hb.mono (by simp))
  have B2 := B1.alloc B1.size (.cells #[.pointer none, .pointer (some ⟨w.heap.size, 0, none⟩), .pointer (some ⟨tb, 0, none⟩)] 29)
  have b12 := (Below.refl w1.heap.size w1).alloc (Nat.le_refl _) (.cells #[.pointer none, .pointer (some ⟨w.heap.size, 0, none⟩), .pointer (some ⟨tb, 0, none⟩)] 29)
  have HA : Hid (str.TrieIs (w1.alloc (.cells #[.pointer none, .pointer (some ⟨w.heap.size, 0, none⟩), .pointer (some ⟨tb, 0, none⟩)] 29)) (fun _ => ⟨#[]⟩) w.heap.size []) := (HT0.out.below hb).below b12
  have HB : Hid (str.TrieIs (w1.alloc (.cells #[.pointer none, .pointer (some ⟨w.heap.size, 0, none⟩), .pointer (some ⟨tb, 0, none⟩)] 29)) (fun _ => ⟨#[]⟩) tb []) := ht.below b12
  have f0 : (w1.alloc (.cells #[.pointer none, .pointer (some ⟨w.heap.size, 0, none⟩), .pointer (some ⟨tb, 0, none⟩)] 29)).cell? ⟨w1.heap.size, 0, none⟩ = some (.pointer none) := by simp
  have f1 : (w1.alloc (.cells #[.pointer none, .pointer (some ⟨w.heap.size, 0, none⟩), .pointer (some ⟨tb, 0, none⟩)] 29)).cell? ⟨w1.heap.size, 1, none⟩ = some (.pointer (some ⟨w.heap.size, 0, none⟩)) := by simp
  have f2 : (w1.alloc (.cells #[.pointer none, .pointer (some ⟨w.heap.size, 0, none⟩), .pointer (some ⟨tb, 0, none⟩)] 29)).cell? ⟨w1.heap.size, 2, none⟩ = some (.pointer (some ⟨tb, 0, none⟩)) := by simp
  have bl : w1.heap.size < (w1.alloc (.cells #[.pointer none, .pointer (some ⟨w.heap.size, 0, none⟩), .pointer (some ⟨tb, 0, none⟩)] 29)).heap.size := by simp
  clear C ht hr hat hb HT0 B1 B0 b12
  go_wp2
  generalize hw2 : w1.alloc (.cells #[.pointer none, .pointer (some ⟨w.heap.size, 0, none⟩), .pointer (some ⟨tb, 0, none⟩)] 29) = w2 at *
  clear hw2
  generalize w1.heap.size = pb at *
  go_loopw [12] (fun i wr => ∃ k : Nat, k ≤ 3 ∧ i = .int .i64 k ∧ Below w2.heap.size w2 wr) (fun i _ => 3 - (intOf i).toNat)
  case atStart => exact ⟨0, by omega, rfl, Below.refl _ _⟩
  case round =>
    obtain ⟨k, hk, rfl, hbel⟩ := hrel
    have g0 := (hbel.cell (p := ⟨pb, 0, none⟩) bl).trans f0
    have g1 := (hbel.cell (p := ⟨pb, 1, none⟩) bl).trans f1
    have g2 := (hbel.cell (p := ⟨pb, 2, none⟩) bl).trans f2
    have HTA : Hid (str.TrieIs wr (fun _ => ⟨#[]⟩) w.heap.size []) := HA.out.below hbel
    have HTB : Hid (str.TrieIs wr (fun _ => ⟨#[]⟩) tb []) := HB.out.below hbel
    rcases (show k = 0 ∨ k = 1 ∨ k = 2 ∨ k = 3 by omega) with rfl | rfl | rfl | rfl
    · go_wp2_with fail
      refine (str.get_nil r _).mono ?_
      rintro e w3 ⟨rfl, rfl⟩
      go_wp2_with fail
      refine (str.ranges_nil ⟨#[]⟩ _).mono ?_
      rintro e w4 ⟨rfl, rfl⟩
      go_wp2
      go_roundw
      case rel => exact ⟨1, by omega, by go_num, hbel⟩
      case measure => simp [intOf]
    · go_wp2_with fail
      refine (nobody_any w.heap.size r _ HTA.out).mono ?_
      rintro e w3 ⟨rfl, b3⟩
      have HT3 : Hid (str.TrieIs w3 (fun _ => ⟨#[]⟩) w.heap.size []) := HTA.out.below b3
      go_wp2_with fail
      refine (nobody_ranges w.heap.size _ HT3.out).mono ?_
      rintro e w4 ⟨ao, cap, rfl, b4⟩
      have R := hbel.trans ((b3.trans (b4.mono b3.size)).mono hbel.size)
      clear b3 b4 g0 g1 g2 hbel
      go_wp2
      go_roundw
      case rel => exact ⟨2, by omega, by go_num, R⟩
      case measure => simp [intOf]
    · go_wp2_with fail
      refine (nobody_any tb r _ HTB.out).mono ?_
      rintro e w3 ⟨rfl, b3⟩
      have HT3 : Hid (str.TrieIs w3 (fun _ => ⟨#[]⟩) tb []) := HTB.out.below b3
      go_wp2_with fail
      refine (nobody_ranges tb _ HT3.out).mono ?_
      rintro e w4 ⟨ao, cap, rfl, b4⟩
      have R := hbel.trans ((b3.trans (b4.mono b3.size)).mono hbel.size)
      clear b3 b4 g0 g1 g2 hbel
      go_wp2
      go_roundw
      case rel => exact ⟨3, by omega, by go_num, R⟩
      case measure => simp [intOf]
    · go_wp2_with fail
      refine (awake_any _).mono ?_
      rintro e w3 ⟨rfl, b3⟩
      go_wp2
      go_ret
      have R := hbel.trans (b3.mono hbel.size)
      exact ⟨rfl, B2.trans (R.mono B2.size)⟩
end Go.Proofs.Ytmglljceklmngaa.tri
