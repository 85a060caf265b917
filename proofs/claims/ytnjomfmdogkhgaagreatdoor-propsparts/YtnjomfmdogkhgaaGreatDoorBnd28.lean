/- Texts that the proof leans on, one behind the other. -/
import Derived.Test.YtnjomfmdogkhgaaGreatDoorBnd27

section
/- PropsParts: the sets of all categories have each code point once. -/
set_option linter.unusedVariables false
set_option linter.unusedSimpArgs false
namespace Go.Proofs.YtnjomfmdogkhgaaGreatDoor.prp
open Go.RowKit Go.Maps lin
open Go.Proofs.YtnjomfmdogkhgaaGreatDoor.rng (R IsSet Sl code)

/-- Whether a category is one, or begins so. -/
def catQ (d c : List UInt8) : Bool := if 1 < c.length then decide (d = c) else Lib.hasPrefix d c
def cntQ (d : List UInt8) (l : List (List UInt8)) : Nat := (l.filter (catQ d)).length
theorem cntQ_le (d : List UInt8) (l : List (List UInt8)) : cntQ d l ≤ l.length := List.length_filter_le _ _
theorem cntQ_next (d : List UInt8) (l : List (List UInt8)) (k : Nat) (c : List UInt8) (h : l[k]? = some c) : cntQ d (l.take (k + 1)) = cntQ d (l.take k) + (if catQ d c then 1 else 0) := by
  unfold cntQ
  rw [List.take_add_one, h, List.filter_append, List.length_append]
  cases hq : catQ d c <;> simp [hq]
def two : List (List UInt8) := [[67, 99], [67, 102], [67, 110], [76, 108], [76, 111], [76, 116], [76, 117], [77, 99], [77, 110], [78, 100], [78, 108], [78, 111], [80, 99], [80, 100], [80, 101], [80, 102], [80, 105], [80, 111], [80, 115], [83, 99], [83, 107], [83, 109], [83, 111], [90, 108], [90, 112], [90, 115]]
def one : List (List UInt8) := [[67], [76], [77], [78], [80], [83], [90]]
theorem two_names : ∀ c ∈ two, nam.resolveV (BA c) = (1, c, 0) ∧ c.length ≤ 2 ∧ 0 < c.length := by decide +kernel
theorem one_names : ∀ c ∈ one, nam.resolveV (BA c) = (1, c, 0) ∧ c.length ≤ 2 ∧ 0 < c.length := by decide +kernel
theorem two_one : ∀ d ∈ sV [67, 110] catL, cntQ d (two.take 26) = 1 := by decide +kernel
theorem one_one : ∀ d ∈ sV [67, 110] catL, cntQ d (one.take 7) = 1 := by decide +kernel
theorem lit_cells (w : World) (l : List (List UInt8)) (cs : Array Value) (h : cs = (l.map fun c => Value.string (BA c)).toArray) : ∀ (i : Nat) c, l[i]? = some c → (w.alloc (.cells cs 9)).cell? ⟨w.heap.size, i, none⟩ = some (.string (BA c)) := fun i c hi => by
  rw [cell_of_row _ _ i _ _ _ (World.alloc_heap_new _ _), h]
  simp [hi]

set_option maxHeartbeats 4000000 in
set_option maxRecDepth 1000000 in
theorem parts_walk (r : Int) (w : World) (E : Env w) : Calls Tryz.prog 6 #[.int .i64 r] w fun e w' => e = .returned (.bool true) ∧ Below w.heap.size w w' := by
  have C := load_any w E
  obtain ⟨X, hX, hcode⟩ := mod_code r
  have HCD : Hid (code X = true) := hcode
  clear hcode E
  go_enter Tryz.func6, Tryz.ntmps6
  go_wp2_with fail
  refine C.mono ?_
  rintro e w1 ⟨t, rfl, ht, b1⟩
  clear C
  rw [hX]
  clear hX
  go_wp2
  have HC1 : Hid (∀ (i : Nat) c, two[i]? = some c → (w1.alloc (.cells #[.string ⟨#[67, 99]⟩, .string ⟨#[67, 102]⟩, .string ⟨#[67, 110]⟩, .string ⟨#[76, 108]⟩, .string ⟨#[76, 111]⟩, .string ⟨#[76, 116]⟩, .string ⟨#[76, 117]⟩, .string ⟨#[77, 99]⟩, .string ⟨#[77, 110]⟩, .string ⟨#[78, 100]⟩, .string ⟨#[78, 108]⟩, .string ⟨#[78, 111]⟩, .string ⟨#[80, 99]⟩, .string ⟨#[80, 100]⟩, .string ⟨#[80, 101]⟩, .string ⟨#[80, 102]⟩, .string ⟨#[80, 105]⟩, .string ⟨#[80, 111]⟩, .string ⟨#[80, 115]⟩, .string ⟨#[83, 99]⟩, .string ⟨#[83, 107]⟩, .string ⟨#[83, 109]⟩, .string ⟨#[83, 111]⟩, .string ⟨#[90, 108]⟩, .string ⟨#[90, 112]⟩, .string ⟨#[90, 115]⟩] 9)).cell? ⟨w1.heap.size, i, none⟩ = some (.string (BA c))) := lit_cells w1 two _ rfl
  have hbA := (Below.refl w1.heap.size w1).alloc (Nat.le_refl _) (.cells #[.string ⟨#[67, 99]⟩, .string ⟨#[67, 102]⟩, .string ⟨#[67, 110]⟩, .string ⟨#[76, 108]⟩, .string ⟨#[76, 111]⟩, .string ⟨#[76, 116]⟩, .string ⟨#[76, 117]⟩, .string ⟨#[77, 99]⟩, .string ⟨#[77, 110]⟩, .string ⟨#[78, 100]⟩, .string ⟨#[78, 108]⟩, .string ⟨#[78, 111]⟩, .string ⟨#[80, 99]⟩, .string ⟨#[80, 100]⟩, .string ⟨#[80, 101]⟩, .string ⟨#[80, 102]⟩, .string ⟨#[80, 105]⟩, .string ⟨#[80, 111]⟩, .string ⟨#[80, 115]⟩, .string ⟨#[83, 99]⟩, .string ⟨#[83, 107]⟩, .string ⟨#[83, 109]⟩, .string ⟨#[83, 111]⟩, .string ⟨#[90, 108]⟩, .string ⟨#[90, 112]⟩, .string ⟨#[90, 115]⟩] 9)
  have HT1 : Hid (Tabs (w1.alloc (.cells #[.string ⟨#[67, 99]⟩, .string ⟨#[67, 102]⟩, .string ⟨#[67, 110]⟩, .string ⟨#[76, 108]⟩, .string ⟨#[76, 111]⟩, .string ⟨#[76, 116]⟩, .string ⟨#[76, 117]⟩, .string ⟨#[77, 99]⟩, .string ⟨#[77, 110]⟩, .string ⟨#[78, 100]⟩, .string ⟨#[78, 108]⟩, .string ⟨#[78, 111]⟩, .string ⟨#[80, 99]⟩, .string ⟨#[80, 100]⟩, .string ⟨#[80, 101]⟩, .string ⟨#[80, 102]⟩, .string ⟨#[80, 105]⟩, .string ⟨#[80, 111]⟩, .string ⟨#[80, 115]⟩, .string ⟨#[83, 99]⟩, .string ⟨#[83, 107]⟩, .string ⟨#[83, 109]⟩, .string ⟨#[83, 111]⟩, .string ⟨#[90, 108]⟩, .string ⟨#[90, 112]⟩, .string ⟨#[90, 115]⟩] 9)) t) := ht.below hbA
  have HB1 : Hid (Below w.heap.size w (w1.alloc (.cells #[.string ⟨#[67, 99]⟩, .string ⟨#[67, 102]⟩, .string ⟨#[67, 110]⟩, .string ⟨#[76, 108]⟩, .string ⟨#[76, 111]⟩, .string ⟨#[76, 116]⟩, .string ⟨#[76, 117]⟩, .string ⟨#[77, 99]⟩, .string ⟨#[77, 110]⟩, .string ⟨#[78, 100]⟩, .string ⟨#[78, 108]⟩, .string ⟨#[78, 111]⟩, .string ⟨#[80, 99]⟩, .string ⟨#[80, 100]⟩, .string ⟨#[80, 101]⟩, .string ⟨#[80, 102]⟩, .string ⟨#[80, 105]⟩, .string ⟨#[80, 111]⟩, .string ⟨#[80, 115]⟩, .string ⟨#[83, 99]⟩, .string ⟨#[83, 107]⟩, .string ⟨#[83, 109]⟩, .string ⟨#[83, 111]⟩, .string ⟨#[90, 108]⟩, .string ⟨#[90, 112]⟩, .string ⟨#[90, 115]⟩] 9))) := b1.trans (hbA.mono b1.size)
  clear ht b1 hbA
  generalize w1.alloc (.cells #[.string ⟨#[67, 99]⟩, .string ⟨#[67, 102]⟩, .string ⟨#[67, 110]⟩, .string ⟨#[76, 108]⟩, .string ⟨#[76, 111]⟩, .string ⟨#[76, 116]⟩, .string ⟨#[76, 117]⟩, .string ⟨#[77, 99]⟩, .string ⟨#[77, 110]⟩, .string ⟨#[78, 100]⟩, .string ⟨#[78, 108]⟩, .string ⟨#[78, 111]⟩, .string ⟨#[80, 99]⟩, .string ⟨#[80, 100]⟩, .string ⟨#[80, 101]⟩, .string ⟨#[80, 102]⟩, .string ⟨#[80, 105]⟩, .string ⟨#[80, 111]⟩, .string ⟨#[80, 115]⟩, .string ⟨#[83, 99]⟩, .string ⟨#[83, 107]⟩, .string ⟨#[83, 109]⟩, .string ⟨#[83, 111]⟩, .string ⟨#[90, 108]⟩, .string ⟨#[90, 112]⟩, .string ⟨#[90, 115]⟩] 9) = W1 at *
  generalize w1.heap.size = G1 at *
  go_loopw [21, 4] (fun i q wr => ∃ k : Nat, k ≤ 26 ∧ i = .int .i64 k ∧ q = .int .i64 ((cntQ (catF X) (two.take k) : Nat) : Int) ∧ Hid (Below W1.heap.size W1 wr)) (fun i _ _ => 26 - (RowKit.intOf i).toNat)
  case atStart => exact ⟨0, Nat.zero_le _, rfl, rfl, Below.refl _ _⟩
  case round =>
    obtain ⟨k, hk, rfl, rfl, HBL⟩ := hrel
    have hcl := cntQ_le (catF X) (two.take k)
    rw [List.length_take] at hcl
    by_cases hlt : k < 26
    · have hlt' : (k : Int) < 26 := by omega
      obtain ⟨c, hc⟩ : ∃ c, two[k]? = some c := ⟨_, List.getElem?_eq_getElem (by show k < 26; exact hlt)⟩
      have q0 := cell_below HBL.out (HC1.out k c hc)
      have hnx := cntQ_next (catF X) two k c hc
      obtain ⟨e1, e2, e3⟩ := two_names c (List.mem_of_getElem? hc)
      have C := set_t t (BA c) wr (HT1.out.below HBL.out) (by rw [BA_size]; omega)
      rw [e1] at C
      have HP : Hid (∀ r, IsSet r (setP (1, c, 0)) → rng.has r X = catQ (catF X) c) := fun r hr => (hr.2 X HCD.out).trans (by unfold setP; simp; rfl)
      clear e1 hc
      generalize BA c = S at *
      go_wp2_with fail
      refine C.mono ?_
      rintro e w3 ⟨v3, r3, rfl, o3, s3, b3⟩
      clear C
      have hh := HP.out r3 s3
      have D := rhas_own v3 r3 X _ w3 o3 (rlen s3)
      rw [hh] at D
      clear o3 s3 hh HP
      have hb3 : Hid (Below W1.heap.size W1 w3) := HBL.out.trans (b3.mono HBL.out.size)
      clear HBL b3 q0
      generalize cntQ (catF X) (two.take k) = Q at *
      go_wp2_with fail
      refine D.mono ?_
      rintro e w4 ⟨rfl, b4⟩
      clear D
      have hb4 : Hid (Below W1.heap.size W1 w4) := hb3.out.trans (b4.mono hb3.out.size)
      clear b4 hb3
      cases hq : catQ (catF X) c with
      | true =>
        rw [hq] at hnx
        have wq : IntKind.i64.wrap ((Q : Int) + 1) = (Q : Int) + 1 := by rw [IntKind.wrap_i64]; omega
        go_wp2
        go_roundw
        case rel => exact ⟨k + 1, by omega, by go_num, by rw [hnx]; simp, hb4⟩
        case measure => simp [RowKit.intOf]; omega
      | false =>
        rw [hq] at hnx
        go_wp2
        go_roundw
        case rel => exact ⟨k + 1, by omega, by go_num, by rw [hnx]; simp, hb4⟩
        case measure => simp [RowKit.intOf]; omega
    · obtain rfl : k = 26 := by omega
      have hone : cntQ (catF X) (two.take 26) = 1 := two_one (catF X) (cat_mem X HCD.out)
      rw [hone]
      have HT1b : Hid (Tabs wr t) := HT1.out.below HBL.out
      have HB1b : Hid (Below w.heap.size w wr) := HB1.out.trans (HBL.out.mono HB1.out.size)
      clear HBL HC1 HT1 HB1 hone hcl
      rw [show ((1 : Nat) : Int) = 1 from rfl]
      go_wp2
      have HC2 : Hid (∀ (i : Nat) c, one[i]? = some c → (wr.alloc (.cells #[.string ⟨#[67]⟩, .string ⟨#[76]⟩, .string ⟨#[77]⟩, .string ⟨#[78]⟩, .string ⟨#[80]⟩, .string ⟨#[83]⟩, .string ⟨#[90]⟩] 9)).cell? ⟨wr.heap.size, i, none⟩ = some (.string (BA c))) := lit_cells wr one _ rfl
      have hbA := (Below.refl wr.heap.size wr).alloc (Nat.le_refl _) (.cells #[.string ⟨#[67]⟩, .string ⟨#[76]⟩, .string ⟨#[77]⟩, .string ⟨#[78]⟩, .string ⟨#[80]⟩, .string ⟨#[83]⟩, .string ⟨#[90]⟩] 9)
      have HT2 : Hid (Tabs (wr.alloc (.cells #[.string ⟨#[67]⟩, .string ⟨#[76]⟩, .string ⟨#[77]⟩, .string ⟨#[78]⟩, .string ⟨#[80]⟩, .string ⟨#[83]⟩, .string ⟨#[90]⟩] 9)) t) := HT1b.out.below hbA
      have HB2 : Hid (Below w.heap.size w (wr.alloc (.cells #[.string ⟨#[67]⟩, .string ⟨#[76]⟩, .string ⟨#[77]⟩, .string ⟨#[78]⟩, .string ⟨#[80]⟩, .string ⟨#[83]⟩, .string ⟨#[90]⟩] 9))) := HB1b.out.trans (hbA.mono HB1b.out.size)
      clear HT1b HB1b hbA
      generalize wr.alloc (.cells #[.string ⟨#[67]⟩, .string ⟨#[76]⟩, .string ⟨#[77]⟩, .string ⟨#[78]⟩, .string ⟨#[80]⟩, .string ⟨#[83]⟩, .string ⟨#[90]⟩] 9) = W2 at *
      generalize wr.heap.size = G2 at *
      go_loopw [41, 5] (fun i q wr => ∃ k : Nat, k ≤ 7 ∧ i = .int .i64 k ∧ q = .int .i64 ((cntQ (catF X) (one.take k) : Nat) : Int) ∧ Hid (Below W2.heap.size W2 wr)) (fun i _ _ => 7 - (RowKit.intOf i).toNat)
      case atStart => exact ⟨0, Nat.zero_le _, rfl, rfl, Below.refl _ _⟩
      case round =>
        obtain ⟨k, hk, rfl, rfl, HBL⟩ := hrel
        have hcl := cntQ_le (catF X) (one.take k)
        rw [List.length_take] at hcl
        by_cases hlt : k < 7
        · have hlt' : (k : Int) < 7 := by omega
          obtain ⟨c, hc⟩ : ∃ c, one[k]? = some c := ⟨_, List.getElem?_eq_getElem (by show k < 7; exact hlt)⟩
          have q0 := cell_below HBL.out (HC2.out k c hc)
          have hnx := cntQ_next (catF X) one k c hc
          obtain ⟨e1, e2, e3⟩ := one_names c (List.mem_of_getElem? hc)
          have C := set_t t (BA c) wr (HT2.out.below HBL.out) (by rw [BA_size]; omega)
          rw [e1] at C
          have HP : Hid (∀ r, IsSet r (setP (1, c, 0)) → rng.has r X = catQ (catF X) c) := fun r hr => (hr.2 X HCD.out).trans (by unfold setP; simp; rfl)
          clear e1 hc
          generalize BA c = S at *
          go_wp2_with fail
          refine C.mono ?_
          rintro e w3 ⟨v3, r3, rfl, o3, s3, b3⟩
          clear C
          have hh := HP.out r3 s3
          have D := rhas_own v3 r3 X _ w3 o3 (rlen s3)
          rw [hh] at D
          clear o3 s3 hh HP
          have hb3 : Hid (Below W2.heap.size W2 w3) := HBL.out.trans (b3.mono HBL.out.size)
          clear HBL b3 q0
          generalize cntQ (catF X) (one.take k) = Q at *
          go_wp2_with fail
          refine D.mono ?_
          rintro e w4 ⟨rfl, b4⟩
          clear D
          have hb4 : Hid (Below W2.heap.size W2 w4) := hb3.out.trans (b4.mono hb3.out.size)
          clear b4 hb3
          cases hq : catQ (catF X) c with
          | true =>
            rw [hq] at hnx
            have wq : IntKind.i64.wrap ((Q : Int) + 1) = (Q : Int) + 1 := by rw [IntKind.wrap_i64]; omega
            go_wp2
            go_roundw
            case rel =>
              refine ⟨_, _, _, _, _, _, _, _, _, _, _, _, _, _, _, _, _, _, _, _, _, _, _, ⟨k + 1, ?_, ?_, ?_, hb4⟩, rfl⟩
              · omega
              · go_num
              · rw [hnx]; simp
            case measure => simp [RowKit.intOf]; omega
          | false =>
            rw [hq] at hnx
            go_wp2
            go_roundw
            case rel =>
              refine ⟨_, _, _, _, _, _, _, _, _, _, _, _, _, _, _, _, _, _, _, _, _, _, _, ⟨k + 1, ?_, ?_, ?_, hb4⟩, rfl⟩
              · omega
              · go_num
              · rw [hnx]; simp
            case measure => simp [RowKit.intOf]; omega
        · obtain rfl : k = 7 := by omega
          have hone : cntQ (catF X) (one.take 7) = 1 := one_one (catF X) (cat_mem X HCD.out)
          rw [hone]
          have HB3 : Hid (Below w.heap.size w wr) := HB2.out.trans (HBL.out.mono HB2.out.size)
          clear HBL HC2 HT2 HB2 hone hcl
          rw [show ((1 : Nat) : Int) = 1 from rfl]
          go_wp2
          go_ret
          exact ⟨rfl, HB3.out⟩
end Go.Proofs.YtnjomfmdogkhgaaGreatDoor.prp
end
