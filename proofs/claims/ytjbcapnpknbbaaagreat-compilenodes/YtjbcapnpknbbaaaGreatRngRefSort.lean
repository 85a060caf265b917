/- What the document's sorted answers: the numbers rising, each once. -/
import Derived.Test.YtjbcapnpknbbaaaGreatBndRngSort
import Derived.Test.YtjbcapnpknbbaaaGreatRngPure3
set_option linter.unusedVariables false
set_option linter.unusedSimpArgs false
namespace Go.Proofs.YtjbcapnpknbbaaaGreat.rng
open Go.RowKit

theorem cellsI_set (L : List Int) (j : Nat) (x : Int) : (cellsI L).set j (.int .i64 x) = cellsI (L.set j x) := by
  unfold cellsI; rw [List.map_set]
theorem cellsI_get {L : List Int} {j : Nat} {x : Int} (h : L[j]? = some x) : (cellsI L)[j]? = some (.int .i64 x) := by
  unfold cellsI; rw [List.getElem?_map, h]; rfl
theorem rowI_cell {w : World} {B g c n : Nat} {L : List Int} (h : w.ownsRow B 3 1 (.slice (some ⟨g, 0, none⟩) n c) n (cellsI L)) {j : Nat} {x : Int} (hj : L[j]? = some x) : w.cell? ⟨g, j, none⟩ = some (.int .i64 x) := by
  have hl : L.length = n := by have := h.1; simpa [cellsI] using this
  have hlt : j < n := by have := (List.getElem?_eq_some_iff.1 hj).1; omega
  exact (h.cellAt j (by omega)).trans (cellsI_get hj)
theorem rowI_set {w : World} {B g c n : Nat} {L : List Int} (h : w.ownsRow B 3 1 (.slice (some ⟨g, 0, none⟩) n c) n (cellsI L)) (j : Nat) (x : Int) : (w.setCell ⟨g, j, none⟩ (.int .i64 x)).ownsRow B 3 1 (.slice (some ⟨g, 0, none⟩) n c) n (cellsI (L.set j x)) := by
  have := (h.stored j (.int .i64 x)).1
  rwa [cellsI_set] at this
theorem get_ltI {l : List Int} {n k : Nat} (h : l.length = n) (hk : k < n) : ∃ x, l[k]? = some x := by
  subst h; exact ⟨_, List.getElem?_eq_getElem hk⟩
theorem one_int (w : World) (x : Value) (t : TypeId) : ∀ (j : Nat) (u : Value), [x][j]? = some u → (w.alloc (Obj.cells #[x] t)).cell? ((⟨w.heap.size, 0, none⟩ : Addr).add j) = some u := by
  intro j u hj
  match j, hj with
  | 0, hj => simp at hj; subst hj; simp [Addr.add]
  | k + 1, hj => simp at hj

set_option maxRecDepth 10000 in
set_option maxHeartbeats 2000000 in
theorem sorted_any (g c B : Nat) (l : List Int) (w : World) (h : w.ownsRow B 3 1 (.slice (some ⟨g, 0, none⟩) l.length c) l.length (cellsI l)) (hB : B ≤ w.heap.size) (hn : l.length ≤ 17592186044000) :
    Calls Tryz.prog 107 #[.slice (some ⟨g, 0, none⟩) l.length c] w fun e w' => ∃ v s, e = .returned v ∧ OwnI w' B v s ∧ s.Pairwise (· < ·) ∧ (∀ y, y ∈ s ↔ y ∈ l) ∧ s.length ≤ l.length ∧ Below B w w' := by
  obtain ⟨i0, hi, hz0, hz1, hz2⟩ := info_parts infoInt
  have hgB : B ≤ g := (h.lt g rfl).1
  obtain ⟨n, hl⟩ : ∃ n, l.length = n := ⟨_, rfl⟩
  rw [hl] at h hn ⊢
  have HL : Hid (l.length = n) := hl
  clear hl
  go_enter Tryz.func107, Tryz.ntmps107
  go_wp2
  go_loopw [11] (fun i wr => ∃ (k : Nat) (L : List Int), k ≤ n ∧ i = .int .i64 k ∧ Hid (L.Perm l) ∧ Hid ((L.take k).Pairwise (· ≤ ·)) ∧ wr.ownsRow B 3 1 (.slice (some ⟨g, 0, none⟩) n c) n (cellsI L) ∧ Below B w wr) (fun i _ => n - (intOf i).toNat)
  case atStart => exact ⟨0, l, Nat.zero_le _, rfl, List.Perm.refl _, List.Pairwise.nil, h, Below.refl _ _⟩
  case round =>
    obtain ⟨k, L, hk, rfl, HP, HS, hown, hbel⟩ := hrel
    clear h
    have HLn : Hid (L.length = n) := HP.out.length_eq.trans HL.out
    by_cases hlt : k < n
    · obtain ⟨x, hx⟩ := get_ltI HLn.out hlt
      have hcell := rowI_cell hown hx
      have HST : Hid (L = hole (L.take k) k x (L.drop (k + 1))) := hole_start hx
      have HPl : Hid ((L.take k).length = k) := by unfold Hid; rw [List.length_take, HLn.out]; omega
      have hown2 : wr.ownsRow B 3 1 (.slice (some ⟨g, 0, none⟩) n c) n (cellsI (hole (L.take k) k x (L.drop (k + 1)))) := by rw [← HST.out]; exact hown
      have HPM : Hid ((L.take k ++ x :: L.drop (k + 1)).Perm l) := by
        unfold Hid
        have := hole_perm (L.take k) k x (L.drop (k + 1))
        rw [← HST.out] at this
        exact this.symm.trans HP.out
      have HH : Hid (∀ a, (hole (L.take k) a x (L.drop (k + 1))).length = n) := fun a => by
        rw [hole_length, HPl.out, List.length_drop, HLn.out]; omega
      clear HST hown hx
      obtain ⟨P, hP⟩ : ∃ P, L.take k = P := ⟨_, rfl⟩
      obtain ⟨S, hS⟩ : ∃ S, L.drop (k + 1) = S := ⟨_, rfl⟩
      rw [hP, hS] at hown2
      rw [hP] at HPl HS
      rw [hP, hS] at HPM HH
      clear hP hS HP HLn
      go_wp2
      go_loopw [5] (fun a wr => ∃ (A : Nat) (hv : Int), a = .int .i64 A ∧ A ≤ k ∧ Hid (∀ y ∈ P.drop A, x < y) ∧ wr.ownsRow B 3 1 (.slice (some ⟨g, 0, none⟩) n c) n (cellsI (hole P A hv S)) ∧ Below B w wr) (fun a _ => (intOf a).toNat)
      case atStart => exact ⟨k, x, rfl, Nat.le_refl _, fun y hy => (by rw [List.drop_of_length_le (by rw [HPl.out]; exact Nat.le_refl _)] at hy; cases hy), hown2, hbel⟩
      case round =>
        obtain ⟨A, hv, rfl, hA, HD, hown, hbel⟩ := hrel
        clear hown2 hcell
        have hget : ∃ z, (hole P A hv S)[A]? = some z := by
          refine ⟨_, List.getElem?_eq_getElem ?_⟩
          rw [hole_length, HPl.out]; omega
        obtain ⟨z, hz⟩ := hget
        have hcA := rowI_cell hown hz
        have hfA := hown.frozenAt A
        clear hz
        have END : ∀ (hle : ∀ y ∈ P.take A, y ≤ x), Hid (∃ L', L'.Perm l ∧ (L'.take (k + 1)).Pairwise (· ≤ ·) ∧ (wr.setCell ⟨g, A, none⟩ (.int .i64 x)).ownsRow B 3 1 (.slice (some ⟨g, 0, none⟩) n c) n (cellsI L')) := fun hle => by
          refine ⟨hole P A x S, (hole_perm P A x S).trans HPM.out, ?_, ?_⟩
          · have := hole_sorted (S := S) HS.out hle HD.out
            rw [HPl.out] at this; exact this
          · have := rowI_set hown A x
            rw [hole_put (by rw [HPl.out]; exact hA)] at this; exact this
        cases A with
        | zero =>
          obtain ⟨L', p1, p2, p3⟩ := END (fun y hy => by simp at hy)
          have HP1 : Hid (L'.Perm l) := p1
          have HP2 : Hid ((L'.take (k + 1)).Pairwise (· ≤ ·)) := p2
          have HP3 : Hid ((wr.setCell ⟨g, 0, none⟩ (.int .i64 x)).ownsRow B 3 1 (.slice (some ⟨g, 0, none⟩) n c) n (cellsI L')) := p3
          have R2 := hbel.setCell (p := ⟨g, 0, none⟩) hgB (.int .i64 x)
          clear END p1 p2 p3 hown HD
          go_wp2
          go_roundw
          case rel => exact ⟨k + 1, L', by omega, by go_num, HP1, HP2, HP3, R2⟩
          case measure => simp [intOf]; omega
        | succ a =>
          obtain ⟨y, hy⟩ := get_ltI HPl.out (show a < k by omega)
          have hcy := rowI_cell hown ((hole_get (h := hv) (S := S) (Nat.lt_succ_self a) (by rw [HPl.out]; exact hA)).trans hy)
          by_cases hxy : x < y
          · have R1 : (wr.setCell ⟨g, a + 1, none⟩ (.int .i64 y)).ownsRow B 3 1 (.slice (some ⟨g, 0, none⟩) n c) n (cellsI (hole P a y S)) := by
              have := rowI_set hown (a + 1) y
              rw [hole_step hy] at this; exact this
            have R2 := hbel.setCell (p := ⟨g, a + 1, none⟩) hgB (.int .i64 y)
            have R3 : Hid (∀ z ∈ P.drop a, x < z) := fun z hz => by
              obtain ⟨ha, e⟩ := List.getElem?_eq_some_iff.1 hy
              rw [List.drop_eq_getElem_cons ha, e] at hz
              rcases List.mem_cons.1 hz with rfl | hz
              · exact hxy
              · exact HD.out z hz
            clear END hown HD hy
            go_wp2
            go_roundw
            case rel => exact ⟨a, y, rfl, by omega, R3, R1, R2⟩
            case measure => simp [intOf]
          · obtain ⟨L', p1, p2, p3⟩ := END (sorted_take HS.out hy (by omega))
            have HP1 : Hid (L'.Perm l) := p1
            have HP2 : Hid ((L'.take (k + 1)).Pairwise (· ≤ ·)) := p2
            have HP3 : Hid ((wr.setCell ⟨g, a + 1, none⟩ (.int .i64 x)).ownsRow B 3 1 (.slice (some ⟨g, 0, none⟩) n c) n (cellsI L')) := p3
            have R2 := hbel.setCell (p := ⟨g, a + 1, none⟩) hgB (.int .i64 x)
            clear END p1 p2 p3 hown HD hy
            go_wp2
            go_roundw
            case rel => exact ⟨k + 1, L', by omega, by go_num, HP1, HP2, HP3, R2⟩
            case measure => simp [intOf]; omega
    · have hs1 := hbel.size
      have HSL : Hid (L.Pairwise (· ≤ ·)) := by
        have := HS.out
        rw [List.take_of_length_le (by rw [HLn.out]; omega)] at this; exact this
      have HOW : Hid (wr.ownsRow B 3 1 (.slice (some ⟨g, 0, none⟩) n c) n (cellsI L)) := hown
      have hg1 : g < wr.heap.size := (hown.lt g rfl).2
      clear HS hown
      generalize wr = w1 at *
      go_wp2
      clear hlt hk
      go_loopw [6, 47] (fun o i wr => ∃ (k : Nat) (out : List Int), k ≤ n ∧ i = .int .i64 k ∧ Hid (DdInv L out k) ∧ out.length ≤ k ∧ wr.ownsRow w1.heap.size 3 1 o out.length (cellsI out) ∧ Below w1.heap.size w1 wr) (fun _ i _ => n - (intOf i).toNat)
      case atStart => exact ⟨0, [], Nat.zero_le _, rfl, DdInv.start L, Nat.le_refl _, World.ownsRow_nil _ _ _ _, Below.refl _ _⟩
      case round =>
        obtain ⟨k, out, hk, rfl, HD, hol, hown, hbel2⟩ := hrel
        have hs2 := hbel2.size
        by_cases hlt : k < n
        · obtain ⟨x, hx⟩ := get_ltI HLn.out hlt
          have hcx := (hbel2.cell (p := ⟨g, k, none⟩) hg1).trans (rowI_cell HOW.out hx)
          have HW : Hid (∀ j, u6.ownBlock = some j → w1.heap.size ≤ j) := fun j e => (hown.lt _ e).1
          have HX : Hid (L[k]? = some x) := hx
          clear hx
          have NEW : ∀ (hd : k = 0 ∨ ∃ z, L[k - 1]? = some z ∧ z ≠ x), Hid (DdInv L (out ++ [x]) (k + 1)) := fun hd => HD.out.new HSL.out HX.out hd
          cases k with
          | zero =>
            have HE := NEW (Or.inl rfl)
            clear NEW
            go_wp2_with (at_builtin; refine wpList_append_own _ rfl _ _ 72 rfl w1.heap.size 3 i0 (.int .i64 0) 1 8 Tryz.underlying72 hi hz0 hz1 hz2 rfl (by decide) _ _ _ rfl (hown.alloc _) ⟨wr.heap.size, 0, none⟩ 1 1 [.int .i64 x] rfl rfl ?c1 ?c2 ?c3 ?c4 ?c5 ?_)
            case c1 => exact one_int wr _ _
            case c2 => intro u hu; simp at hu; subst hu; rfl
            case c3 => unfold maxLen; omega
            case c4 => omega
            case c5 => simp; omega
            · intro v' w2 hown2 hgrow _
              have R2 := Below.grown (hbel2.alloc hs2 (.cells #[.int .i64 x] 3)) hgrow (by simp; omega) HW.out
              have R1 : w2.ownsRow w1.heap.size 3 1 v' (out ++ [x]).length (cellsI (out ++ [x])) := by
                rw [List.length_append, show cellsI (out ++ [x]) = cellsI out ++ [.int .i64 x] by simp [cellsI]]; exact hown2
              have R3 : (out ++ [x]).length ≤ 0 + 1 := by rw [List.length_append]; show out.length + 1 ≤ 0 + 1; omega
              clear hown2 hgrow
              go_wp2
              go_roundw
              case rel => exact ⟨0 + 1, out ++ [x], by omega, by go_num, HE, R3, R1, R2⟩
              case measure => simp [intOf]; omega
          | succ a =>
            obtain ⟨z, hz⟩ := get_ltI HLn.out (show a < n by omega)
            have hcz := (hbel2.cell (p := ⟨g, a, none⟩) hg1).trans (rowI_cell HOW.out hz)
            by_cases hzx : z = x
            · subst hzx
              have HE : Hid (DdInv L out (a + 1 + 1)) := HD.out.same HX.out (Nat.succ_pos a) (by rw [Nat.add_sub_cancel]; exact hz)
              clear NEW hz
              go_wp2
              go_roundw
              case rel => exact ⟨a + 1 + 1, out, by omega, by go_num, HE, by omega, hown, hbel2⟩
              case measure => simp [intOf]; omega
            · have HE := NEW (Or.inr ⟨z, by rw [Nat.add_sub_cancel]; exact hz, hzx⟩)
              have hne : (z != x) = true := by simpa using hzx
              clear NEW hz hzx
              go_wp2_with (at_builtin; refine wpList_append_own _ rfl _ _ 72 rfl w1.heap.size 3 i0 (.int .i64 0) 1 8 Tryz.underlying72 hi hz0 hz1 hz2 rfl (by decide) _ _ _ rfl (hown.alloc _) ⟨wr.heap.size, 0, none⟩ 1 1 [.int .i64 x] rfl rfl ?c1 ?c2 ?c3 ?c4 ?c5 ?_)
              case c1 => exact one_int wr _ _
              case c2 => intro u hu; simp at hu; subst hu; rfl
              case c3 => unfold maxLen; omega
              case c4 => omega
              case c5 => simp; omega
              · intro v' w2 hown2 hgrow _
                have R2 := Below.grown (hbel2.alloc hs2 (.cells #[.int .i64 x] 3)) hgrow (by simp; omega) HW.out
                have R1 : w2.ownsRow w1.heap.size 3 1 v' (out ++ [x]).length (cellsI (out ++ [x])) := by
                  rw [List.length_append, show cellsI (out ++ [x]) = cellsI out ++ [.int .i64 x] by simp [cellsI]]; exact hown2
                have R3 : (out ++ [x]).length ≤ a + 1 + 1 := by rw [List.length_append]; simp; omega
                clear hown2 hgrow
                go_wp2
                go_roundw
                case rel => exact ⟨a + 1 + 1, out ++ [x], by omega, by go_num, HE, R3, R1, R2⟩
                case measure => simp [intOf]; omega
        · go_wp2
          go_ret
          refine ⟨_, out, rfl, own_mono hown (by omega), HD.out.lt, fun y => ?_, by omega, hbel.trans (hbel2.mono (by omega))⟩
          rw [HD.out.mem, List.take_of_length_le (by rw [HLn.out]; omega)]
          exact HP.out.mem_iff
end Go.Proofs.YtjbcapnpknbbaaaGreat.rng
