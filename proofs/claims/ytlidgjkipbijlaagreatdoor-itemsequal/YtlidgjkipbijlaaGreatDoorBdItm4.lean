/- Texts that the proof leans on, one behind the other. -/
import Derived.Test.YtlidgjkipbijlaaGreatDoorBdItm3
import Derived.Test.YtlidgjkipbijlaaGreatDoorBdPrp8
import Derived.ProofKit
import Derived.OpenShut

section
/- A subject of the program, and the document's: both, of any bytes. -/
set_option linter.unusedVariables false
set_option linter.unusedSimpArgs false
namespace Go.Proofs.YtlidgjkipbijlaaGreatDoor.itm
open Go.RowKit Go.Shelf nrm prp
open Go.Proofs.YtlidgjkipbijlaaGreatDoor.utf (IsB lst)

theorem TxtIs.lower {W : World} {base b x n : Nat} {f : Nat → Int} {l : List nfd.I} (h : TxtIs W base x n f l) (hb : b ≤ base) : TxtIs W b x n f l := by
  obtain ⟨bv, iv, lv, h1, h2, h3, h4⟩ := h.all
  exact ⟨Nat.le_trans hb h.low, bv, iv, lv, h1, own_low h2 hb, own_low h3 hb, own_low h4 hb⟩
theorem RTxt.lower {W : World} {base b x n : Nat} {f : Nat → Int} {l : List nfd.I} (h : RTxt W base x n f l) (hb : b ≤ base) : RTxt W b x n f l := by
  obtain ⟨bv, iv, h1, h2, h3⟩ := h.all
  exact ⟨bv, iv, h1, own_low h2 hb, own_low h3 hb⟩
/-- Bytes that came in. -/
structure ArgB (W : World) (v : Value) (n : Nat) (f : Nat → Int) : Prop where
  all : ∃ ao cap, v = .slice ao n cap ∧ IsB W ao n f ∧ (∀ i, 0 ≤ f i ∧ f i ≤ 255) ∧ n ≤ cap ∧ cap ≤ 9223372036854775807 ∧ (ao = none → n = 0 ∧ cap = 0)
theorem isB_less {w : World} {ao : Option Addr} {n m : Nat} {f : Nat → Int} (h : IsB w ao n f) (hm : m ≤ n) : IsB w ao m f := by
  rcases h with h | ⟨b, off, rfl, h⟩
  · exact .inl (by omega)
  · exact .inr ⟨b, off, rfl, fun i hi => h i (by omega)⟩
/-- From place k on the bytes of block g are yet as they were. -/
def RowU (w : World) (g n k : Nat) (f : Nat → Int) : Prop := ∃ cur, w.heap[g]? = some (.cells cur 5 (0, 0)) ∧ ∀ j, k ≤ j → j < n → cur[j]? = some (.int .u8 (f j))
theorem RowU.set {w : World} {g n k : Nat} {f : Nat → Int} (h : RowU w g n k f) (v : Value) : RowU (w.setCell ⟨g, k, none⟩ v) g n (k + 1) f := by
  obtain ⟨cur, h1, h2⟩ := h
  refine ⟨_, heap_setCell_same w g k _ _ v h1, fun j hj hn => ?_⟩
  rw [Array.getElem?_setIfInBounds_ne (by omega)]
  exact h2 j (by omega) hn
theorem RowU.kept {w w' : World} {g n k : Nat} {f : Nat → Int} (h : RowU w g n k f) (hb : Below w.heap.size w w') : RowU w' g n k f := by
  obtain ⟨cur, h1, h2⟩ := h
  exact ⟨cur, (hb.block g (Array.getElem?_eq_some_iff.1 h1).1).trans h1, h2⟩
/-- The loop over what was given: the subject's own bytes stay. -/
def Given (w wr : World) (ga : Option Addr) (n k x base : Nat) (f : Nat → Int) (l : List nfd.I) : Prop :=
  TxtIs wr base x n f l ∧ Below w.heap.size w wr ∧ (k < n → ∃ g, ga = some ⟨g, 0, none⟩ ∧ w.heap.size ≤ g ∧ g < base ∧ RowU wr g n k f)
theorem Given.step {w wr : World} {ga : Option Addr} {n k x base : Nat} {f : Nat → Int} {l : List nfd.I} (h : Given w wr ga n k x base f l) (hk : k < n) : ∃ g, ga = some ⟨g, 0, none⟩ ∧ wr.cell? ⟨g, k, none⟩ = some (.int .u8 (f k)) ∧ wr.frozen? ⟨g, k, none⟩ = false ∧ ∀ v, Given w (wr.setCell ⟨g, k, none⟩ v) ga n (k + 1) x base f l := by
  obtain ⟨h1, h2, h3⟩ := h
  obtain ⟨g, rfl, hg, hgb, hr⟩ := h3 hk
  obtain ⟨cur, q1, q2⟩ := id hr
  refine ⟨g, rfl, ?_, frozen_of_row wr g k _ _ q1, fun v => ⟨?_, h2.setCell hg v, fun _ => ⟨g, rfl, hg, hgb, hr.set v⟩⟩⟩
  · rw [cell_of_row wr g k _ _ _ q1]
    exact q2 k (Nat.le_refl _) hk
  · exact h1.turns (D := fun k => k = g) ⟨rfl, rfl, rfl, by rw [World.setCell]; simp, fun j _ hj => heap_setCell_other wr _ j v hj⟩ (fun k e => by omega)

set_option maxHeartbeats 2000000 in
set_option maxRecDepth 1000000 in
theorem both_any (v : Value) (N n : Nat) (f : Nat → Int) (c : Bool) (w : World) (h : ArgB w v N f) (hN : min N 300 = n) (E : Env w) :
    Calls Tryz.prog 9 #[v, .bool c] w fun e w' => ∃ x y, e = .returned (.tuple #[.pointer (some ⟨x, 0, none⟩), .pointer (some ⟨y, 0, none⟩), .bool true]) ∧ TxtIs w' w.heap.size x n f (itemsL c f n) ∧ RTxt w' w.heap.size y n f (itemsL c f n) ∧ Below w.heap.size w w' := by
  obtain ⟨ao, cap, rfl, hB, hf, hcap, hmax, hnil⟩ := h.all
  have hn300 : n ≤ 300 := by omega
  have HE : Hid (Env w) := E
  have HB0 : Hid (IsB w ao n f) := isB_less hB (by omega)
  have HF : Hid (∀ i, 0 ≤ f i ∧ f i ≤ 255) := hf
  have HNI : Hid (ao = none → n = 0 ∧ cap = 0) := fun e => by have := hnil e; exact ⟨by omega, this.2⟩
  have HCP : Hid (n ≤ cap) := by show _ ≤ _; omega
  have C := clone_own ao n cap f w HB0.out (fun e => (HNI.out e).1) (by omega)
  have hmin : min (N : Int) 300 = (n : Int) := by omega
  have hmin2 : (if (N : Int) < 300 then (N : Int) else 300) = (n : Int) := by split <;> omega
  have hmin3 : (if (300 : Int) < (N : Int) then 300 else (N : Int)) = (n : Int) := by split <;> omega
  have hmin4 : (if (N : Int) ≤ 300 then (N : Int) else 300) = (n : Int) := by split <;> omega
  have hncap : (n : Int) ≤ (cap : Int) := by omega
  have hn0 : (0 : Int) ≤ (n : Int) := by omega
  clear h hB hf hnil hN E
  go_enter Tryz.func9, Tryz.ntmps9
  go_wp2_with fail
  refine C.mono ?_
  rintro e w1 ⟨gv, rfl, o1, b1⟩
  clear C
  have HB1 : Hid (Below w.heap.size w w1) := b1
  have HO1 : Hid (w1.ownsRow w.heap.size 5 1 gv n ((lst f n).map (Value.int .u8))) := o1
  obtain ⟨ga, gc, rfl, hgi, _, _, hgn⟩ := utf.isB_own o1
  have HG1 : Hid (IsB w1 ga n f) := hgi
  have HGN : Hid (ga = none → n = 0) := hgn
  have HGR : Hid (0 < n → ∃ g, ga = some ⟨g, 0, none⟩ ∧ w.heap.size ≤ g ∧ g < w1.heap.size ∧ RowU w1 g n 0 f) := fun h0 => by
    rcases o1.2 with ⟨_, h00⟩ | ⟨g, cp, cur, hv, hg, hgh, h3, h4, h5, h6⟩
    · omega
    · injection hv with e1 e2 e3
      refine ⟨g, e1, hg, (Array.getElem?_eq_some_iff.1 hgh).1, cur, hgh, fun j _ hj => ?_⟩
      have := congrArg (fun q => q[j]?) h6
      rw [Nat.mul_one, List.getElem?_take_of_lt hj, utf.lst_get? f n j hj, Array.getElem?_toList] at this
      exact this
  clear b1 o1 hgi hgn HO1
  have C := load_any w1 (HE.out.below HB1.out)
  go_wp2_with fail
  refine C.mono ?_
  rintro e w2 ⟨t, rfl, ht, b2⟩
  clear C
  have HB2 : Hid (Below w.heap.size w w2) := HB1.out.trans (b2.mono HB1.out.size)
  have C := new_t t ga n gc f c w2 ht (HG1.out.below b2) HGN.out (by omega) HF.out
  have HGR2 : Hid (0 < n → ∃ g, ga = some ⟨g, 0, none⟩ ∧ w.heap.size ≤ g ∧ g < w2.heap.size ∧ RowU w2 g n 0 f) := fun h0 => by
    obtain ⟨g, e, h1, h2, h3⟩ := HGR.out h0
    exact ⟨g, e, h1, Nat.lt_of_lt_of_le h2 b2.size, h3.kept b2⟩
  clear ht b2 HB1 HG1 HGN HGR
  go_wp2_with fail
  refine C.mono ?_
  rintro e w3 ⟨x, rfl, hx, b3⟩
  clear C
  have HGV : Hid (Given w w3 ga n 0 x w2.heap.size f (itemsL c f n)) := ⟨hx, HB2.out.trans (b3.mono HB2.out.size), fun h0 => by
    obtain ⟨g, e, h1, h2, h3⟩ := HGR2.out h0
    exact ⟨g, e, h1, h2, h3.kept b3⟩⟩
  have HSZ : Hid (w.heap.size ≤ w2.heap.size) := HB2.out.size
  clear hx b3 HB2 HGR2
  generalize w2.heap.size = base at *
  generalize hL : itemsL c f n = L at *
  have HL : Hid (itemsL c f n = L) := hL
  clear hL
  go_wp2
  go_loopw [27] (fun i wr => ∃ k : Nat, k ≤ n ∧ i = .int .i64 k ∧ Hid (Given w wr ga n k x base f L)) (fun i _ => n - (RowKit.intOf i).toNat)
  case atStart => exact ⟨0, Nat.zero_le _, rfl, HGV⟩
  case round =>
    clear HGV
    obtain ⟨k, hk, rfl, HG⟩ := hrel
    by_cases hlt : k < n
    · have hlt' : (k : Int) < (n : Int) := by omega
      have hk0 : (0 : Int) ≤ (k : Int) := by omega
      obtain ⟨g, rfl, c1, c2, hnx⟩ := HG.out.step hlt
      have HNX : Hid (∀ v, Given w (wr.setCell ⟨g, k, none⟩ v) (some ⟨g, 0, none⟩) n (k + 1) x base f L) := hnx
      clear HG hnx
      generalize f k = fk at *
      go_wp2
      go_roundw
      case rel => exact ⟨k + 1, by omega, by go_num, HNX.out _⟩
      case measure => simp [RowKit.intOf]; omega
    · obtain rfl : k = n := by omega
      have hlt' : ¬ (k : Int) < (k : Int) := by omega
      obtain ⟨hx, hb, _⟩ := HG.out
      have HX : Hid (TxtIs wr base x k f L) := hx
      have HB : Hid (Below w.heap.size w wr) := hb
      clear HG hx hb
      have C := rload_any wr
      go_wp2_with fail
      refine C.mono ?_
      rintro e w5 ⟨u, rfl, hu, b5⟩
      clear C
      have HB5 : Hid (Below w.heap.size w w5) := HB.out.trans (b5.mono HB.out.size)
      have HX5 : Hid (TxtIs w5 base x k f L) := HX.out.below b5
      have C := rnew_t u ao k cap f c w5 hu (HB0.out.below HB5.out) HNI.out (by omega) HCP.out (by omega) HF.out
      rw [HL.out] at C
      clear hu b5 HB HX
      go_wp2_with fail
      refine C.mono ?_
      rintro e w6 ⟨y, rfl, hy, b6⟩
      clear C
      have HFIN : Hid (TxtIs w6 w.heap.size x k f (itemsL c f k) ∧ RTxt w6 w.heap.size y k f (itemsL c f k) ∧ Below w.heap.size w w6) := by
        show _ ∧ _
        rw [HL.out]
        exact ⟨(HX5.out.below b6).lower HSZ.out, hy.lower HB5.out.size, HB5.out.trans (b6.mono HB5.out.size)⟩
      clear hy b6 HX5 HB5
      go_wp2
      go_ret3
      exact ⟨_, _, rfl, HFIN.out⟩
theorem ArgB.fine {W : World} {v : Value} {n : Nat} {f : Nat → Int} (h : ArgB W v n f) : ∀ i, 0 ≤ f i ∧ f i ≤ 255 := by
  obtain ⟨_, _, _, _, hf, _⟩ := h.all
  exact hf
theorem len300 (c : Bool) (f : Nat → Int) (n : Nat) (hn : n ≤ 300) : (itemsL c f n).length ≤ 2700 := by
  have := items_len c f n
  omega
end Go.Proofs.YtlidgjkipbijlaaGreatDoor.itm
end

section
/- How a slice of bytes that came in as an argument reads. -/
set_option linter.unusedVariables false
namespace Go.Proofs.YtlidgjkipbijlaaGreatDoor.itm
open Go.ChangeShapes Go.WideShapes Go.ChangeAt Go.RowKit
open Go.Proofs.YtlidgjkipbijlaaGreatDoor.utf (IsB)

set_option maxRecDepth 1000000 in
theorem open_bytes {H : Type} {enc : TypeId × Value → H} {W : World} {base : Nat} {v : Value} {d : DataW H} {p : List MemPlace}
    (hv : Value.okWide Tryz.prog W .any base 22 v) (h : DataW.Trod enc Tryz.prog W 0 (fun _ => true) true 22 v d p) : ∃ n f, ArgB W v n f := by
  obtain ⟨ao, n, cap, rfl⟩ := okWide_slice Tryz.underlying22 hv
  obtain ⟨fuel, hf⟩ := h
  rcases open_ints Tryz.underlying22 Tryz.underlying5 (by kernel_rfl) hf with ⟨hcs, _⟩ | ⟨x, l, c, zs, hcs, _, hl, hm, hz, hx, hcell, hwz⟩
  · simp [Value.cells] at hcs
    obtain ⟨rfl, rfl, rfl⟩ := hcs
    exact ⟨0, fun _ => 0, none, 0, rfl, .inl rfl, fun _ => ⟨by omega, by omega⟩, Nat.le_refl _, by omega, fun _ => ⟨rfl, rfl⟩⟩
  · simp [Value.cells] at hcs
    obtain ⟨rfl, rfl, rfl⟩ := hcs
    simp at hz
    unfold maxLen at hm
    refine ⟨n, fun i => zs[i]?.getD 0, some x, cap, rfl, ?_, range_u8 hwz, hl, by omega, fun h => by cases h⟩
    rcases Nat.eq_zero_or_pos n with h0 | h0
    · exact .inl h0
    · obtain ⟨b, off, spot⟩ := x
      have hspot : spot = none := by simpa [Addr.add] using World.cell?_spot (hcell 0 (by omega))
      subst hspot
      exact .inr ⟨b, off, rfl, fun i hi => by rw [← Addr.add_lit]; simpa using hcell i (by omega)⟩
end Go.Proofs.YtlidgjkipbijlaaGreatDoor.itm
end
