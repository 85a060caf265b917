/- What the document's Template answers: the same as the program's. -/
import Derived.Test.YtfnndnlhdfjggaaEdtAwake
import Derived.Test.YtfnndnlhdfjggaaEdtRef
import Derived.Test.YtfnndnlhdfjggaaEdtRG
set_option linter.unusedVariables false
set_option linter.unusedSimpArgs false
namespace Go.Proofs.Ytfnndnlhdfjggaa.edt
open Go.RowKit

def RRsV (w : World) (B : Nat) : Rs → Ending → Prop
  | .ok ps, e => ∃ v qs, e = .returned (.tuple #[v, .agg #[.int .i64 0, .int .i64 0]]) ∧ PsAt w B 71 v qs ∧ qs.map Prod.snd = ps
  | .no c a, e => e = .returned (.tuple #[.slice none 0 0, .agg #[.int .i64 c, .int .i64 a]])
/-- Parts stay where a text apart from theirs grows. -/
theorem PsAt.other {w w' : World} {B : Nat} {e : TypeId} {v tv : Value} {qs : List Qt} {tx : List Int} (h : PsAt w B e v qs) (he : e ≠ 5) (ht : OB w B tv tx) (hap : ∀ q ∈ qs, ∀ g, q.1.ownBlock = some g → tv.ownBlock ≠ some g) (hg : w.grownBy w' tv.ownBlock) : PsAt w' B e v qs := by
  refine ⟨World.ownsRow.kept h.row hg (own_apart h.row ht he), fun q hq => World.ownsRow.kept (h.txt q hq) hg ?_, h.ap⟩
  cases hb : q.1.ownBlock with
  | none => exact .inl rfl
  | some k => exact .inr (fun e0 => hap q hq k hb e0.symm)
theorem rpart_new (w : World) (x y : Value) : ∀ (j : Nat) (u : Value), [x, y][j]? = some u → (w.alloc (Obj.cells #[x, y] 71)).cell? ((⟨w.heap.size, 0, none⟩ : Addr).add j) = some u := by
  intro j u hj
  match j, hj with
  | 0, hj => simp at hj; subst hj; simp [Addr.add]
  | 1, hj => simp at hj; subst hj; simp [Addr.add]
  | k + 2, hj => simp at hj
theorem byte_new (w : World) (x : Int) (hx : 0 ≤ x ∧ x ≤ 255) : BS (w.alloc (.cells #[.int .u8 x] 5)) (some ⟨w.heap.size, 0, none⟩) 1 1 [x] := bs_const w [x] (0, 0) (by simp) (by simpa using hx)
theorem ends_snoc (ps : List Pt) (a : Int) (h : 0 ≤ a) : Ends (ps ++ [([], a)]) := .inr ⟨ps, ([], a), rfl, by simp only; omega⟩

set_option maxHeartbeats 8000000 in
set_option maxRecDepth 100000 in
theorem rtmpl_any (ao : Option Addr) (n cap : Nat) (l : List Int) (groups : Int) (aT : Option Addr) (nT cT : Nat) (T : List ByteArray) (w : World) (hB : BS w ao n cap l) (hT : TS w aT nT cT T) (hn : n ≤ 1048576) :
    Calls Try.prog 10 #[.slice ao n cap, .int .i64 groups, .slice aT nT cT] w fun e w' => RRsV w' w.heap.size (tm l groups T (n + 1) 0 []) e ∧ Below w.heap.size w w' := by
  obtain ⟨i0, hi, hz0, hz1, hz2⟩ := info_parts infoRPart
  have hnc := hB.nc
  have hcm := hB.cm
  have hl : Hid (l.length = n) := hB.len
  have HRG : Hid (∀ x ∈ l, 0 ≤ x ∧ x ≤ 255) := mem_range hB.rg
  have ba := fun o => (Below.refl w.heap.size w).alloc (Nat.le_refl _) o
  have HB0 : Hid (BS (w.alloc (.cells #[.int .i64 0, .int .i64 0] 28)) ao n cap l) := hB.below (ba _)
  have HT0 : Hid (TS (w.alloc (.cells #[.int .i64 0, .int .i64 0] 28)) aT nT cT T) := hT.below (ba _)
  have HBA : Hid (Below w.heap.size w (w.alloc (.cells #[.int .i64 0, .int .i64 0] 28))) := ba _
  have HG0 : Hid ((w.alloc (.cells #[.int .i64 0, .int .i64 0] 28)).heap[w.heap.size]? = some (.cells #[.int .i64 0, .int .i64 0] 28 (0, 0))) := heap_alloc_new w _
  obtain ⟨W0, hW0⟩ : ∃ W0, w.alloc (.cells #[.int .i64 0, .int .i64 0] 28) = W0 := ⟨_, rfl⟩
  have hlw : w.heap.size < W0.heap.size := by rw [← hW0]; simp
  rw [hW0] at HB0 HT0 HG0 HBA
  obtain ⟨R, hR⟩ : ∃ R, tm l groups T (n + 1) 0 [] = R := ⟨_, rfl⟩
  rw [hR]
  have HR : Hid (tm l groups T (n + 1) 0 [] = R) := hR
  clear hB hT ba hR
  go_enter Try.func10, Try.ntmps10
  go_wp2
  clear hW0
  go_loopw [8, 9, 10] (fun v tv i wr => ∃ (a : Nat) (qs : List Qt) (tx : List Int), a ≤ n ∧ i = .int .i64 a ∧ Hid (PsAt wr W0.heap.size 71 v qs) ∧ Hid (OB wr W0.heap.size tv tx) ∧ Hid (∀ q ∈ qs, ∀ g, q.1.ownBlock = some g → tv.ownBlock ≠ some g) ∧ Hid (tx.length ≤ a ∧ qs.length ≤ 2 * a) ∧ Hid (Ends (qs.map Prod.snd)) ∧ Hid (tm l groups T (l.length - a + 1) a (qs.map Prod.snd ++ flush tx) = R) ∧ Hid (Below W0.heap.size W0 wr)) (fun _ _ i _ => n - (intOf i).toNat)
  case atStart => exact ⟨0, [], [], Nat.zero_le _, rfl, PsAt.nil _ _ _, World.ownsRow_lit (base := W0.heap.size) (e := 5) (size := 1) W0 #[] 0 (Nat.le_refl _) (by decide) rfl, (fun q hq => by cases hq), ⟨by simp, by simp⟩, .inl rfl, by show tm l groups T (l.length - 0 + 1) 0 ([] ++ flush []) = R; rw [hl.out, Nat.sub_zero]; exact HR.out, (Below.refl _ _).alloc (Nat.le_refl _) _⟩
  case round =>
    clear HR
    obtain ⟨a, qs, tx, ha, rfl, HP, HX, HAP, HLN, HEN, HK, HBE⟩ := hrel
    have hsz := HBE.out.size
    have HBr : Hid (BS wr ao n cap l) := HB0.out.below HBE.out
    by_cases hlt : a < n
    · obtain ⟨b, off, rfl, hcc⟩ := HBr.out.at_ (by omega)
      have c0 := hcc a hlt
      have hal : a < l.length := by rw [hl.out]; exact hlt
      have hltn := HLN.out.1
      have hr0 := HBr.out.rg a
      have hd0 : ∀ j, (l.drop a).getD j 0 = l.getD (a + j) 0 := fun j => by rw [List.getD_eq_getElem?_getD, List.getElem?_drop, List.getD_eq_getElem?_getD]
      obtain ⟨ta, tn, tc, rfl⟩ : ∃ x m c, u9 = Value.slice x m c := by obtain ⟨x, c, e⟩ := own_slice HX.out; exact ⟨x, _, c, e⟩
      have HVX : Hid (∀ k, (Value.slice ta tn tc).ownBlock = some k → W0.heap.size ≤ k) := fun k e => (World.ownsRow.lt HX.out k e).1
      have hai : (a : Int) < (n : Int) := by omega
      have hai0 : (0 : Int) ≤ (a : Int) := by omega
      by_cases h36 : ¬ l.getD a 0 = 36
      · have HMK : Hid (mk (l.drop a) = .txt (l.getD a 0) 1) := by
          show mk (l.drop a) = _
          unfold mk; rw [hd0 0, Nat.add_zero, if_pos h36]
        clear hcc hd0
        generalize l.getD a 0 = x at *
        have h36b : (x == 36) = false := by simpa using h36
        have HNB : Hid (BS (wr.alloc (.cells #[.int .u8 x] 5)) (some ⟨wr.heap.size, 0, none⟩) 1 1 [x]) := byte_new wr x (by omega)
        have HXA : Hid (OB (wr.alloc (.cells #[.int .u8 x] 5)) W0.heap.size (.slice ta tn tc) tx) := HX.out.below ((Below.refl _ _).alloc (Nat.le_refl _) _)
        have HKN : Hid (tm l groups T (l.length - (a + 1) + 1) (a + 1) (qs.map Prod.snd ++ flush (tx ++ [x])) = R) := by
          have h1 := HK.out
          rw [tm_next l groups T a _ hal, HMK.out] at h1
          simp only at h1
          rw [addT_flush _ HEN.out] at h1
          exact h1
        clear HK
        go_wp2_with (at_builtin; refine wpList_app rfl _ _ rfl W0.heap.size _ tx rfl HXA.out _ 1 1 [x] rfl HNB.out (by omega) (by simp; omega) ?_)
        intro v' w3 hO3 hgr hat
        have R1 : Hid (PsAt w3 W0.heap.size 71 u8 qs) := (HP.out.alloc _).other (by decide) HXA.out HAP.out hgr
        have R2 : Hid (OB w3 W0.heap.size v' (tx ++ [x])) := hO3
        have R3 : Hid (∀ q ∈ qs, ∀ g, q.1.ownBlock = some g → v'.ownBlock ≠ some g) := fun q hq g hg => by
          rcases hat with h1 | h1
          · rw [h1]; exact HAP.out q hq g hg
          · rw [h1]; intro e0; cases e0; have h9 := (World.ownsRow.lt (HP.out.txt q hq) _ hg).2; first | omega | (simp only [World.size_alloc] at h9; omega)
        have R4 : Hid (Below W0.heap.size W0 w3) := Below.grown (HBE.out.alloc hsz _) hgr (by simp; omega) HVX.out
        have R5 : Hid ((tx ++ [x]).length ≤ a + 1 ∧ qs.length ≤ 2 * (a + 1)) := ⟨by rw [List.length_append]; have := HLN.out.1; simp only [List.length_cons, List.length_nil]; omega, by have := HLN.out.2; omega⟩
        clear hO3 hgr hat HP HX HXA HNB HAP HLN HBE
        go_wp2
        go_roundw
        case rel => exact ⟨a + 1, qs, tx ++ [x], by omega, by go_num, R1, R2, R3, R5, HEN, HKN, R4⟩
        case measure => simp [intOf]; omega
      have h36e : l.getD a 0 = 36 := Decidable.not_not.1 h36
      have HNT : Hid (¬ l.getD (a + 1) 0 = 36 → ∀ c s, ¬ mk (l.drop a) = .txt c s) := by
        intro h1 c s e
        unfold mk at e
        rw [hd0 0, hd0 1, Nat.add_zero, if_neg (by rw [h36e]; exact fun h => h rfl), if_neg h1] at e
        split at e
        · unfold mkB at e
          split at e
          · cases e
          split at e
          · cases e
          split at e <;> cases e
        split at e
        · split at e <;> cases e
        · cases e
      have HG1 : Hid (wr.heap[w.heap.size]? = some (.cells #[.int .i64 0, .int .i64 0] 28 (0, 0))) := (HBE.out.block _ (by omega)).trans HG0.out
      have HTr : Hid (TS wr aT nT cT T) := HT0.out.below HBE.out
      have hw1 : IntKind.i64.wrap ((a : Int) + 1) = (a : Int) + 1 := by rw [IntKind.wrap_i64]; omega
      have hw2 : ((a : Int) + 1).toNat = a + 1 := by omega
      have hw3 : (0 : Int) ≤ (a : Int) + 1 := by omega
      have hw4 : (a : Int) + 1 ≤ (n : Int) := by omega
      rw [h36e] at c0
      by_cases h1 : l.getD (a + 1) 0 = 36
      · have hl1 : a + 1 < n := by rw [← hl.out]; exact getD_in (by rw [h1]; decide)
        have c1 := hcc (a + 1) hl1
        rw [h1] at c1
        have hca : ¬ cap = a + 1 := by omega
        have q1 : (0 : Int) < ((n - (a + 1) : Nat) : Int) := by omega
        have HMK : Hid (mk (l.drop a) = .txt 36 2) := by
          show mk (l.drop a) = _
          unfold mk; rw [hd0 0, hd0 1, Nat.add_zero, if_neg (by rw [h36e]; exact fun h => h rfl), if_pos h1]
        clear hcc hd0 h36 h36e h1
        have HNB : Hid (BS (wr.alloc (.cells #[.int .u8 36] 5)) (some ⟨wr.heap.size, 0, none⟩) 1 1 [36]) := byte_new wr 36 (by omega)
        have HXA : Hid (OB (wr.alloc (.cells #[.int .u8 36] 5)) W0.heap.size (.slice ta tn tc) tx) := HX.out.below ((Below.refl _ _).alloc (Nat.le_refl _) _)
        have HKN : Hid (tm l groups T (l.length - (a + 2) + 1) (a + 2) (qs.map Prod.snd ++ flush (tx ++ [36])) = R) := by
          have h1 := HK.out
          rw [tm_next l groups T a _ hal, HMK.out] at h1
          simp only at h1
          rw [addT_flush _ HEN.out] at h1
          exact h1
        clear HK
        go_wp2_with (at_builtin; refine wpList_app rfl _ _ rfl W0.heap.size _ tx rfl HXA.out _ 1 1 [36] rfl HNB.out (by omega) (by simp; omega) ?_)
        intro v' w3 hO3 hgr hat
        have R1 : Hid (PsAt w3 W0.heap.size 71 u8 qs) := (HP.out.alloc _).other (by decide) HXA.out HAP.out hgr
        have R2 : Hid (OB w3 W0.heap.size v' (tx ++ [36])) := hO3
        have R3 : Hid (∀ q ∈ qs, ∀ g, q.1.ownBlock = some g → v'.ownBlock ≠ some g) := fun q hq g hg => by
          rcases hat with h1 | h1
          · rw [h1]; exact HAP.out q hq g hg
          · rw [h1]; intro e0; cases e0; have h9 := (World.ownsRow.lt (HP.out.txt q hq) _ hg).2; first | omega | (simp only [World.size_alloc] at h9; omega)
        have R4 : Hid (Below W0.heap.size W0 w3) := Below.grown (HBE.out.alloc hsz _) hgr (by simp; omega) HVX.out
        have R5 : Hid ((tx ++ [36]).length ≤ a + 2 ∧ qs.length ≤ 2 * (a + 2)) := ⟨by rw [List.length_append]; have := HLN.out.1; simp only [List.length_cons, List.length_nil]; omega, by have := HLN.out.2; omega⟩
        clear hO3 hgr hat HP HX HXA HNB HAP HLN HBE
        go_wp2
        go_roundw
        case rel => exact ⟨a + 2, qs, tx ++ [36], by omega, by go_num, R1, R2, R3, R5, HEN, HKN, R4⟩
        case measure => simp [intOf]; omega
      have hr1 := HBr.out.rg (a + 1)
      have hr2 := HBr.out.rg (a + 2)
      cases hd1 : dg (l.getD (a + 1) 0) with
      | true =>
        have hl1 : a + 1 < n := by rw [← hl.out]; exact getD_in (fun e => by rw [e] at hd1; exact absurd hd1 (by decide))
        have c1 := hcc (a + 1) hl1
        have hca : ¬ cap = a + 1 := by omega
        have q1 : (0 : Int) < ((n - (a + 1) : Nat) : Int) := by omega
        have q1b : (1 : Int) ≤ ((cap - (a + 1) : Nat) : Int) := by omega
        have hbw : b < wr.heap.size := World.block_lt_of_cell? wr _ c1
        have hbw2 : ¬ b = wr.heap.size := by omega
        have h123 : ¬ l.getD (a + 1) 0 = 123 := fun e => by rw [e] at hd1; exact absurd hd1 (by decide)
        have G1 := fun W => rdigit_any (l.getD (a + 1) 0) W
        simp only [hd1] at G1
        cases hd2 : dg (l.getD (a + 2) 0) with
        | true =>
          have hl2 : a + 2 < n := by rw [← hl.out]; exact getD_in (fun e => by rw [e] at hd2; exact absurd hd2 (by decide))
          have c2 : wr.cell? ⟨b, off + (a + 1) + 1, none⟩ = some (.int .u8 (l.getD (a + 2) 0)) := hcc (a + 2) hl2
          have q2 : (1 : Int) < ((n - (a + 1) : Nat) : Int) := by omega
          have q3 : (2 : Int) ≤ ((cap - (a + 1) : Nat) : Int) := by omega
          have q4 : (2 : Int) ≤ ((n - (a + 1) : Nat) : Int) := by omega
          have G2 := fun W => rdigit_any (l.getD (a + 2) 0) W
          simp only [hd2] at G2
          have CV : (convert 22 9 (.slice (some ⟨b, off + (a + 1), none⟩) 2 (cap - (a + 1)))).run Try.prog wr = .ok (.string (strOfNums [l.getD (a + 1) 0, l.getD (a + 2) 0])) wr := by
            have := (HBr.out.sub (a + 1) (a + 1 + 2) (by omega) (by omega)).bts
            rw [if_neg hca, show a + 1 + 2 - (a + 1) = 2 from by omega, show (l.drop (a + 1)).take 2 = [l.getD (a + 1) 0, l.getD (a + 2) 0] from by rw [drop_cons l (a + 1) 0 (by rw [hl.out]; omega), drop_cons l (a + 1 + 1) 0 (by rw [hl.out]; omega)]; rfl, show Option.map (fun x : Addr => x.add (a + 1)) (some ⟨b, off, none⟩) = some ⟨b, off + (a + 1), none⟩ from by simp [Addr.add]] at this
            exact this
          have HDM : Hid (∀ x ∈ [l.getD (a + 1) 0, l.getD (a + 2) 0], x ∈ l) := by
            intro x hx
            simp only [List.mem_cons, List.mem_nil_iff, or_false] at hx
            rcases hx with rfl | rfl
            · exact (by rw [List.getD_eq_getElem?_getD, List.getElem?_eq_getElem (by rw [hl.out]; omega)]; exact List.getElem_mem _)
            · exact (by rw [List.getD_eq_getElem?_getD, List.getElem?_eq_getElem (by rw [hl.out]; omega)]; exact List.getElem_mem _)
          have HMW : Hid (meant groups T (mk (l.drop a)) = ofWord groups T [l.getD (a + 1) 0, l.getD (a + 2) 0] 3) := by
            have e : mk (l.drop a) = .num [l.getD (a + 1) 0, l.getD (a + 2) 0] 3 := by unfold mk; rw [hd0 0, hd0 1, hd0 2, Nat.add_zero, if_neg (by rw [h36e]; exact fun h => h rfl), if_neg h1, if_neg h123, if_pos hd1, if_pos hd2]
            show meant groups T (mk (l.drop a)) = _
            rw [e]; exact (ofWord_num groups T _ _ (dgK_two _ _ hd1 hd2)).symm
          have h36n : ¬ l.getD (a + 1) 0 = 36 := h1
          clear hd0 hcc
          clear h1 h123 h36 h36e
          have HGEM : Hid (∀ D S, meant groups T (mk (l.drop a)) = ofWord groups T D S → (grpV D groups T).2 = 0 → 0 ≤ (grpV D groups T).1) := by
            intro D S e hz
            have := meant_ge groups T (l.drop a)
            rw [e] at this
            unfold ofWord at this
            rw [if_pos hz] at this
            exact this
          have HTM : Hid (∀ D S, meant groups T (mk (l.drop a)) = ofWord groups T D S → R = if (grpV D groups T).2 = 0 then tm l groups T (l.length - (a + S) + 1) (a + S) ((qs.map Prod.snd ++ flush tx) ++ [([], (grpV D groups T).1)]) else .no (grpV D groups T).2 a) := by
            intro D S e
            have h1 := tm_meant l groups T a (qs.map Prod.snd ++ flush tx) hal (HNT.out (by assumption))
            rw [HK.out, e] at h1
            unfold ofWord at h1
            by_cases hz : (grpV D groups T).2 = 0
            · rw [if_pos hz] at h1 ⊢
              simpa using h1
            · rw [if_neg hz] at h1 ⊢
              simp only at h1
              rw [if_neg hz] at h1
              exact h1
          clear HNT HK
          generalize l.getD (a + 1) 0 = x1 at *
          generalize l.getD (a + 2) 0 = x2 at *
          have hx136 : (x1 == 36) = false := by simpa using h36n
          have GC := rgroup_some [x1, x2] groups aT nT cT T wr (fun x hx => HRG.out x (HDM.out x hx)) (by simp) (by simp) HTr.out
          have h1 := HTM.out _ _ HMW.out
          have HGE := HGEM.out _ _ HMW.out
          obtain ⟨gv, ge, hge⟩ : ∃ x y, grpV [x1, x2] groups T = (x, y) := ⟨_, _, rfl⟩
          rw [hge] at GC h1 HGE
          simp only at GC h1 HGE
          generalize strOfNums [x1, x2] = S9 at *
          clear hge HDM HMW HTM HGEM
          by_cases hz : ge = 0
          · subst hz
            rw [if_pos rfl] at h1
            have HG9 : Hid (0 ≤ gv) := HGE rfl
            clear HGE
            have HKN : Hid (tm l groups T (l.length - (a + 3) + 1) (a + 3) ((qs.map Prod.snd ++ flush tx) ++ [([], gv)]) = R) := h1.symm
            clear h1
            by_cases htx : tx = []
            · subst htx
              have hfl : flush ([] : List Int) = [] := rfl
              rw [hfl, List.append_nil] at HKN
              have htn : tn = 0 := by obtain ⟨x, c, e⟩ := own_slice HX.out; cases e; rfl
              subst htn
              have HPB : Hid (PsAt (wr.alloc (.cells #[] 5)) W0.heap.size 71 u8 qs) := HP.out.alloc _
              have HVB : Hid (∀ k, u8.ownBlock = some k → W0.heap.size ≤ k) := fun k e => (HP.out.row.lt k e).1
              have hq9 : qs.length ≤ 2 * n := by have := HLN.out.2; omega
              go_wp2_with (first | (go_at_call 25; first | (refine (G1 _).mono ?_; rintro e w' ⟨rfl, hw⟩; have hw2 := hw.symm; clear hw; subst hw2) | (refine (G2 _).mono ?_; rintro e w' ⟨rfl, hw⟩; have hw2 := hw.symm; clear hw; subst hw2)) | (go_at_call 27; refine GC.mono ?_; rintro e w' ⟨rfl, hw⟩; have hw2 := hw.symm; clear hw; subst hw2) | (at_builtin; refine wpList_append_lies _ rfl _ _ 31 rfl W0.heap.size 71 i0 (.agg #[.slice none 0 0, .int .i64 0]) 2 32 Try.underlying31 hi hz0 hz1 hz2 rfl (by decide) _ qs.length _ rfl (HPB.out.row.alloc _) ⟨wr.heap.size + 1, 0, none⟩ 1 1 [.slice none 0 0, .int .i64 gv] rfl rfl (by have := rpart_new (wr.alloc (.cells #[] 5)) (.slice none 0 0) (.int .i64 gv); simpa using this) (by intro u hu; simp at hu; rcases hu with rfl | rfl <;> rfl) (by decide) (by unfold maxLen; omega) (by omega) (by simp; omega) (wr.heap.size + 2) (by simp) ?_))
              intro g c5 w5 hown hgrow hat hlt5
              have R1 : Hid (PsAt w5 W0.heap.size 71 (.slice (some ⟨g, 0, none⟩) (qs.length + 1) c5) (qs ++ [(.slice none 0 0, [], gv)])) := (HPB.out.alloc _).snoc (by decide) _ _ _ hown hgrow (OB.nil _ _) (fun q hq g hg e => by cases e)
              have R2 : Hid (OB w5 W0.heap.size (.slice (some ⟨wr.heap.size, 0, none⟩) 0 0) []) := by
                have h2 : OB ((wr.alloc (.cells #[] 5)).alloc (.cells #[.slice none 0 0, .int .i64 gv] 71)) W0.heap.size (.slice (some ⟨wr.heap.size, 0, none⟩) 0 0) [] := OB.below (World.ownsRow_lit (base := W0.heap.size) (e := 5) (size := 1) wr #[] 0 hsz (by decide) rfl) ((Below.refl _ _).alloc (Nat.le_refl _) _)
                exact World.ownsRow.kept h2 hgrow (own_apart h2 (HPB.out.alloc _).row (by decide))
              have R3 : Hid (∀ q ∈ qs ++ [((.slice none 0 0 : Value), ([] : List Int), gv)], ∀ g, q.1.ownBlock = some g → (Value.slice (some ⟨wr.heap.size, 0, none⟩) 0 0).ownBlock ≠ some g) := fun q hq g hg e0 => by
                rcases List.mem_append.1 hq with hq | hq
                · cases e0; have h9 := (World.ownsRow.lt (HP.out.txt q hq) _ hg).2; first | omega | (simp only [World.size_alloc] at h9; omega)
                · obtain rfl : q = (.slice none 0 0, [], gv) := by simpa using hq
                  cases hg
              have R4 : Hid (Below W0.heap.size W0 w5) := Below.grown ((HBE.out.alloc hsz _).alloc (by simp; omega) _) hgrow (by simp; omega) HVB.out
              have R5 : Hid (([] : List Int).length ≤ a + 3 ∧ (qs ++ [((.slice none 0 0 : Value), ([] : List Int), gv)]).length ≤ 2 * (a + 3)) := ⟨by simp, by rw [List.length_append]; have := HLN.out.2; simp only [List.length_cons, List.length_nil]; omega⟩
              have R6 : Hid (Ends ((qs ++ [((.slice none 0 0 : Value), ([] : List Int), gv)]).map Prod.snd)) := by rw [List.map_append]; exact ends_snoc _ gv HG9.out
              have R7 : Hid (tm l groups T (l.length - (a + 3) + 1) (a + 3) ((qs ++ [((.slice none 0 0 : Value), ([] : List Int), gv)]).map Prod.snd ++ flush []) = R) := by rw [List.map_append, hfl, List.append_nil]; exact HKN.out
              clear hown hgrow hat hlt5 HP HPB HX HAP HLN HBE HKN HEN HG9
              go_wp2
              go_roundw
              case rel => exact ⟨a + 3, _, [], by omega, by go_num, R1, R2, R3, R5, R6, R7, R4⟩
              case measure => simp [intOf]; omega
            · have hfl : flush tx = [(tx, -1)] := by unfold flush; rw [if_neg htx]
              rw [hfl] at HKN
              have htn : tn = tx.length := by obtain ⟨x, c, e⟩ := own_slice HX.out; cases e; rfl
              have htp : 0 < tx.length := List.length_pos_iff.2 htx
              have htp2 : (0 : Int) < (tn : Int) := by omega
              have HTN : Hid (tn = tx.length) := htn
              have HTX : Hid (tx.length ≤ n) := by have := HLN.out.1; show tx.length ≤ n; omega
              have HVB : Hid (∀ k, u8.ownBlock = some k → W0.heap.size ≤ k) := fun k e => (HP.out.row.lt k e).1
              have hq9 : qs.length ≤ 2 * n := by have := HLN.out.2; omega
              clear htn htp htx
              go_wp2_with (first | (go_at_call 25; first | (refine (G1 _).mono ?_; rintro e w' ⟨rfl, hw⟩; have hw2 := hw.symm; clear hw; subst hw2) | (refine (G2 _).mono ?_; rintro e w' ⟨rfl, hw⟩; have hw2 := hw.symm; clear hw; subst hw2)) | (go_at_call 27; refine GC.mono ?_; rintro e w' ⟨rfl, hw⟩; have hw2 := hw.symm; clear hw; subst hw2) | (at_builtin; refine wpList_append_lies _ rfl _ _ 31 rfl W0.heap.size 71 i0 (.agg #[.slice none 0 0, .int .i64 0]) 2 32 Try.underlying31 hi hz0 hz1 hz2 rfl (by decide) _ qs.length _ rfl (HP.out.row.alloc _) ⟨wr.heap.size, 0, none⟩ 1 1 [.slice ta tn tc, .int .i64 (-1)] rfl rfl (rpart_new wr _ _) (by intro u hu; simp at hu; rcases hu with rfl | rfl <;> rfl) (by decide) (by unfold maxLen; omega) (by omega) (by simp; omega) (wr.heap.size + 1) (by simp) ?_))
              intro g4 c4 w4 hown4 hgrow4 hat4 hlt4
              have hXA : OB (wr.alloc (.cells #[.slice ta tn tc, .int .i64 (-1)] 71)) W0.heap.size (.slice ta tn tc) tx := HX.out.below ((Below.refl _ _).alloc (Nat.le_refl _) _)
              have HP4 : Hid (PsAt w4 W0.heap.size 71 (.slice (some ⟨g4, 0, none⟩) (qs.length + 1) c4) (qs ++ [(.slice ta tn tc, tx, -1)])) := (HP.out.alloc _).snoc (by decide) _ _ _ hown4 hgrow4 (World.ownsRow.kept hXA hgrow4 (own_apart hXA (HP.out.alloc _).row (by decide))) HAP.out
              have HB4 : Hid (Below W0.heap.size W0 w4) := Below.grown (HBE.out.alloc hsz _) hgrow4 (by simp; omega) HVB.out
              have hsz4 := HB4.out.size
              have HPB : Hid (PsAt (w4.alloc (.cells #[] 5)) W0.heap.size 71 (.slice (some ⟨g4, 0, none⟩) (qs.length + 1) c4) (qs ++ [(.slice ta tn tc, tx, -1)])) := HP4.out.alloc _
              have HVB4 : Hid (∀ k, (Value.slice (some ⟨g4, 0, none⟩) (qs.length + 1) c4).ownBlock = some k → W0.heap.size ≤ k) := fun k e => (HP4.out.row.lt k e).1
              have HL4 : Hid ((qs ++ [((.slice ta tn tc : Value), (tx : List Int), (-1 : Int))]).length = qs.length + 1) := by show (qs ++ [_]).length = _; rw [List.length_append]; rfl
              clear hown4 hgrow4 hat4 hlt4 hXA HP HX HAP HBE
              go_wp2_with (first | (go_at_call 25; first | (refine (G1 _).mono ?_; rintro e w' ⟨rfl, hw⟩; have hw2 := hw.symm; clear hw; subst hw2) | (refine (G2 _).mono ?_; rintro e w' ⟨rfl, hw⟩; have hw2 := hw.symm; clear hw; subst hw2)) | (go_at_call 27; refine GC.mono ?_; rintro e w' ⟨rfl, hw⟩; have hw2 := hw.symm; clear hw; subst hw2) | (at_builtin; refine wpList_append_lies _ rfl _ _ 31 rfl W0.heap.size 71 i0 (.agg #[.slice none 0 0, .int .i64 0]) 2 32 Try.underlying31 hi hz0 hz1 hz2 rfl (by decide) _ (qs.length + 1) _ rfl (by have := HPB.out.row; rw [HL4.out] at this; exact this.alloc _) ⟨w4.heap.size + 1, 0, none⟩ 1 1 [.slice none 0 0, .int .i64 gv] rfl rfl (by have := rpart_new (w4.alloc (.cells #[] 5)) (.slice none 0 0) (.int .i64 gv); simpa using this) (by intro u hu; simp at hu; rcases hu with rfl | rfl <;> rfl) (by decide) (by unfold maxLen; omega) (by omega) (by simp; omega) (w4.heap.size + 2) (by simp) ?_))
              intro g c5 w5 hown hgrow hat hlt5
              have R1 : Hid (PsAt w5 W0.heap.size 71 (.slice (some ⟨g, 0, none⟩) (qs.length + 1 + 1) c5) ((qs ++ [((.slice ta tn tc : Value), (tx : List Int), (-1 : Int))]) ++ [(.slice none 0 0, [], gv)])) := (HPB.out.alloc _).snoc (by decide) _ _ _ (by rw [HL4.out]; exact hown) hgrow (OB.nil _ _) (fun q hq g hg e => by cases e)
              have R2 : Hid (OB w5 W0.heap.size (.slice (some ⟨w4.heap.size, 0, none⟩) 0 0) []) := by
                have h2 : OB ((w4.alloc (.cells #[] 5)).alloc (.cells #[.slice none 0 0, .int .i64 gv] 71)) W0.heap.size (.slice (some ⟨w4.heap.size, 0, none⟩) 0 0) [] := OB.below (World.ownsRow_lit (base := W0.heap.size) (e := 5) (size := 1) w4 #[] 0 hsz4 (by decide) rfl) ((Below.refl _ _).alloc (Nat.le_refl _) _)
                exact World.ownsRow.kept h2 hgrow (own_apart h2 (HPB.out.alloc _).row (by decide))
              have R3 : Hid (∀ q ∈ (qs ++ [((.slice ta tn tc : Value), (tx : List Int), (-1 : Int))]) ++ [((.slice none 0 0 : Value), ([] : List Int), gv)], ∀ g, q.1.ownBlock = some g → (Value.slice (some ⟨w4.heap.size, 0, none⟩) 0 0).ownBlock ≠ some g) := fun q hq g hg e0 => by
                rcases List.mem_append.1 hq with hq | hq
                · cases e0; have h9 := (World.ownsRow.lt (HP4.out.txt q hq) _ hg).2; first | omega | (simp only [World.size_alloc] at h9; omega)
                · obtain rfl : q = (.slice none 0 0, [], gv) := by simpa using hq
                  cases hg
              have R4 : Hid (Below W0.heap.size W0 w5) := Below.grown ((HB4.out.alloc hsz4 _).alloc (by simp; omega) _) hgrow (by simp; omega) HVB4.out
              have R5 : Hid (([] : List Int).length ≤ a + 3 ∧ ((qs ++ [((.slice ta tn tc : Value), (tx : List Int), (-1 : Int))]) ++ [((.slice none 0 0 : Value), ([] : List Int), gv)]).length ≤ 2 * (a + 3)) := ⟨by simp, by rw [List.length_append, HL4.out]; have := HLN.out.2; simp only [List.length_cons, List.length_nil]; omega⟩
              have R6 : Hid (Ends (((qs ++ [((.slice ta tn tc : Value), (tx : List Int), (-1 : Int))]) ++ [((.slice none 0 0 : Value), ([] : List Int), gv)]).map Prod.snd)) := by rw [List.map_append]; exact ends_snoc _ gv HG9.out
              have R7 : Hid (tm l groups T (l.length - (a + 3) + 1) (a + 3) (((qs ++ [((.slice ta tn tc : Value), (tx : List Int), (-1 : Int))]) ++ [((.slice none 0 0 : Value), ([] : List Int), gv)]).map Prod.snd ++ flush []) = R) := by rw [List.map_append, List.map_append, show flush ([] : List Int) = [] from rfl, List.append_nil]; exact HKN.out
              clear hown hgrow hat hlt5 HP4 HPB HLN HB4 HKN HEN HG9
              go_wp2
              go_roundw
              case rel => exact ⟨a + 3, _, [], by omega, by go_num, R1, R2, R3, R5, R6, R7, R4⟩
              case measure => simp [intOf]; omega
          · rw [if_neg hz] at h1
            have HER : Hid (R = Rs.no ge a) := h1
            have hz2 : (ge == 0) = false := by simpa using hz
            have hz3 : (ge != 0) = true := by simpa using hz
            clear h1 HGE
            obtain ⟨⟨k0, k1⟩, f0, f1⟩ := blk2 HG1.out
            go_wp2_with (first | (go_at_call 25; first | (refine (G1 _).mono ?_; rintro e w' ⟨rfl, hw⟩; have hw2 := hw.symm; clear hw; subst hw2) | (refine (G2 _).mono ?_; rintro e w' ⟨rfl, hw⟩; have hw2 := hw.symm; clear hw; subst hw2)) | (go_at_call 27; refine GC.mono ?_; rintro e w' ⟨rfl, hw⟩; have hw2 := hw.symm; clear hw; subst hw2))
            all_goals
              refine bodyPost_ret (results2 Try.results10 _ _ (.slice none 0 0) w.heap.size _ #[.int .i64 ge, .int .i64 a] _ _ rfl rfl (set2 HG1.out) Try.underlying28 rfl infoFault) rfl ⟨?_, ?_⟩
              · rw [HER.out]; rfl
              · exact ((HBA.out.trans (HBE.out.mono (by omega))).setCell (by simp) _).setCell (by simp) _

        | false =>
          have CV : (convert 22 9 (.slice (some ⟨b, off + (a + 1), none⟩) 1 (cap - (a + 1)))).run Try.prog wr = .ok (.string (strOfNums [l.getD (a + 1) 0])) wr := by
            have := (HBr.out.sub (a + 1) (a + 1 + 1) (by omega) (by omega)).bts
            rw [if_neg hca, show a + 1 + 1 - (a + 1) = 1 from by omega, show (l.drop (a + 1)).take 1 = [l.getD (a + 1) 0] from by rw [drop_cons l (a + 1) 0 (by rw [hl.out]; omega)]; rfl, show Option.map (fun x : Addr => x.add (a + 1)) (some ⟨b, off, none⟩) = some ⟨b, off + (a + 1), none⟩ from by simp [Addr.add]] at this
            exact this
          have HDM : Hid (∀ x ∈ [l.getD (a + 1) 0], x ∈ l) := by
            intro x hx
            simp only [List.mem_cons, List.mem_nil_iff, or_false] at hx
            subst hx; exact (by rw [List.getD_eq_getElem?_getD, List.getElem?_eq_getElem (by rw [hl.out]; omega)]; exact List.getElem_mem _)
          have HMW : Hid (meant groups T (mk (l.drop a)) = ofWord groups T [l.getD (a + 1) 0] 2) := by
            have e : mk (l.drop a) = .num [l.getD (a + 1) 0] 2 := by unfold mk; rw [hd0 0, hd0 1, hd0 2, Nat.add_zero, if_neg (by rw [h36e]; exact fun h => h rfl), if_neg h1, if_neg h123, if_pos hd1, if_neg (by rw [hd2]; decide)]
            show meant groups T (mk (l.drop a)) = _
            rw [e]; exact (ofWord_num groups T _ _ (dgK_one _ hd1)).symm
          have h36n : ¬ l.getD (a + 1) 0 = 36 := h1
          have q6 : (1 : Int) < ((n - (a + 1) : Nat) : Int) → wr.cell? ⟨b, off + (a + 1) + 1, none⟩ = some (.int .u8 (l.getD (a + 2) 0)) := fun h => hcc (a + 2) (by omega)
          have G2 := fun W => rdigit_any (l.getD (a + 2) 0) W
          simp only [hd2] at G2
          clear hd0 hcc
          clear h1 h123 h36 h36e
          have HGEM : Hid (∀ D S, meant groups T (mk (l.drop a)) = ofWord groups T D S → (grpV D groups T).2 = 0 → 0 ≤ (grpV D groups T).1) := by
            intro D S e hz
            have := meant_ge groups T (l.drop a)
            rw [e] at this
            unfold ofWord at this
            rw [if_pos hz] at this
            exact this
          have HTM : Hid (∀ D S, meant groups T (mk (l.drop a)) = ofWord groups T D S → R = if (grpV D groups T).2 = 0 then tm l groups T (l.length - (a + S) + 1) (a + S) ((qs.map Prod.snd ++ flush tx) ++ [([], (grpV D groups T).1)]) else .no (grpV D groups T).2 a) := by
            intro D S e
            have h1 := tm_meant l groups T a (qs.map Prod.snd ++ flush tx) hal (HNT.out (by assumption))
            rw [HK.out, e] at h1
            unfold ofWord at h1
            by_cases hz : (grpV D groups T).2 = 0
            · rw [if_pos hz] at h1 ⊢
              simpa using h1
            · rw [if_neg hz] at h1 ⊢
              simp only at h1
              rw [if_neg hz] at h1
              exact h1
          clear HNT HK
          generalize l.getD (a + 1) 0 = x1 at *
          generalize l.getD (a + 2) 0 = x2 at *
          have hx136 : (x1 == 36) = false := by simpa using h36n
          rcases (show n = a + 2 ∨ a + 2 < n from by omega) with hn2 | hn2
          · have hn2' := hn2
            have q2 : ¬ (1 : Int) < ((n - (a + 1) : Nat) : Int) := by omega
            clear q6 hn2 hn2'
            have GC := rgroup_some [x1] groups aT nT cT T wr (fun x hx => HRG.out x (HDM.out x hx)) (by simp) (by simp) HTr.out
            have h1 := HTM.out _ _ HMW.out
            have HGE := HGEM.out _ _ HMW.out
            obtain ⟨gv, ge, hge⟩ : ∃ x y, grpV [x1] groups T = (x, y) := ⟨_, _, rfl⟩
            rw [hge] at GC h1 HGE
            simp only at GC h1 HGE
            generalize strOfNums [x1] = S9 at *
            clear hge HDM HMW HTM HGEM
            by_cases hz : ge = 0
            · subst hz
              rw [if_pos rfl] at h1
              have HG9 : Hid (0 ≤ gv) := HGE rfl
              clear HGE
              have HKN : Hid (tm l groups T (l.length - (a + 2) + 1) (a + 2) ((qs.map Prod.snd ++ flush tx) ++ [([], gv)]) = R) := h1.symm
              clear h1
              by_cases htx : tx = []
              · subst htx
                have hfl : flush ([] : List Int) = [] := rfl
                rw [hfl, List.append_nil] at HKN
                have htn : tn = 0 := by obtain ⟨x, c, e⟩ := own_slice HX.out; cases e; rfl
                subst htn
                have HPB : Hid (PsAt (wr.alloc (.cells #[] 5)) W0.heap.size 71 u8 qs) := HP.out.alloc _
                have HVB : Hid (∀ k, u8.ownBlock = some k → W0.heap.size ≤ k) := fun k e => (HP.out.row.lt k e).1
                have hq9 : qs.length ≤ 2 * n := by have := HLN.out.2; omega
                go_wp2_with (first | (go_at_call 25; first | (refine (G1 _).mono ?_; rintro e w' ⟨rfl, hw⟩; have hw2 := hw.symm; clear hw; subst hw2) | (refine (G2 _).mono ?_; rintro e w' ⟨rfl, hw⟩; have hw2 := hw.symm; clear hw; subst hw2)) | (go_at_call 27; refine GC.mono ?_; rintro e w' ⟨rfl, hw⟩; have hw2 := hw.symm; clear hw; subst hw2) | (at_builtin; refine wpList_append_lies _ rfl _ _ 31 rfl W0.heap.size 71 i0 (.agg #[.slice none 0 0, .int .i64 0]) 2 32 Try.underlying31 hi hz0 hz1 hz2 rfl (by decide) _ qs.length _ rfl (HPB.out.row.alloc _) ⟨wr.heap.size + 1, 0, none⟩ 1 1 [.slice none 0 0, .int .i64 gv] rfl rfl (by have := rpart_new (wr.alloc (.cells #[] 5)) (.slice none 0 0) (.int .i64 gv); simpa using this) (by intro u hu; simp at hu; rcases hu with rfl | rfl <;> rfl) (by decide) (by unfold maxLen; omega) (by omega) (by simp; omega) (wr.heap.size + 2) (by simp) ?_))
                intro g c5 w5 hown hgrow hat hlt5
                have R1 : Hid (PsAt w5 W0.heap.size 71 (.slice (some ⟨g, 0, none⟩) (qs.length + 1) c5) (qs ++ [(.slice none 0 0, [], gv)])) := (HPB.out.alloc _).snoc (by decide) _ _ _ hown hgrow (OB.nil _ _) (fun q hq g hg e => by cases e)
                have R2 : Hid (OB w5 W0.heap.size (.slice (some ⟨wr.heap.size, 0, none⟩) 0 0) []) := by
                  have h2 : OB ((wr.alloc (.cells #[] 5)).alloc (.cells #[.slice none 0 0, .int .i64 gv] 71)) W0.heap.size (.slice (some ⟨wr.heap.size, 0, none⟩) 0 0) [] := OB.below (World.ownsRow_lit (base := W0.heap.size) (e := 5) (size := 1) wr #[] 0 hsz (by decide) rfl) ((Below.refl _ _).alloc (Nat.le_refl _) _)
                  exact World.ownsRow.kept h2 hgrow (own_apart h2 (HPB.out.alloc _).row (by decide))
                have R3 : Hid (∀ q ∈ qs ++ [((.slice none 0 0 : Value), ([] : List Int), gv)], ∀ g, q.1.ownBlock = some g → (Value.slice (some ⟨wr.heap.size, 0, none⟩) 0 0).ownBlock ≠ some g) := fun q hq g hg e0 => by
                  rcases List.mem_append.1 hq with hq | hq
                  · cases e0; have h9 := (World.ownsRow.lt (HP.out.txt q hq) _ hg).2; first | omega | (simp only [World.size_alloc] at h9; omega)
                  · obtain rfl : q = (.slice none 0 0, [], gv) := by simpa using hq
                    cases hg
                have R4 : Hid (Below W0.heap.size W0 w5) := Below.grown ((HBE.out.alloc hsz _).alloc (by simp; omega) _) hgrow (by simp; omega) HVB.out
                have R5 : Hid (([] : List Int).length ≤ a + 2 ∧ (qs ++ [((.slice none 0 0 : Value), ([] : List Int), gv)]).length ≤ 2 * (a + 2)) := ⟨by simp, by rw [List.length_append]; have := HLN.out.2; simp only [List.length_cons, List.length_nil]; omega⟩
                have R6 : Hid (Ends ((qs ++ [((.slice none 0 0 : Value), ([] : List Int), gv)]).map Prod.snd)) := by rw [List.map_append]; exact ends_snoc _ gv HG9.out
                have R7 : Hid (tm l groups T (l.length - (a + 2) + 1) (a + 2) ((qs ++ [((.slice none 0 0 : Value), ([] : List Int), gv)]).map Prod.snd ++ flush []) = R) := by rw [List.map_append, hfl, List.append_nil]; exact HKN.out
                clear hown hgrow hat hlt5 HP HPB HX HAP HLN HBE HKN HEN HG9
                go_wp2
                go_roundw
                case rel => exact ⟨a + 2, _, [], by omega, by go_num, R1, R2, R3, R5, R6, R7, R4⟩
                case measure => simp [intOf]; omega
              · have hfl : flush tx = [(tx, -1)] := by unfold flush; rw [if_neg htx]
                rw [hfl] at HKN
                have htn : tn = tx.length := by obtain ⟨x, c, e⟩ := own_slice HX.out; cases e; rfl
                have htp : 0 < tx.length := List.length_pos_iff.2 htx
                have htp2 : (0 : Int) < (tn : Int) := by omega
                have HTN : Hid (tn = tx.length) := htn
                have HTX : Hid (tx.length ≤ n) := by have := HLN.out.1; show tx.length ≤ n; omega
                have HVB : Hid (∀ k, u8.ownBlock = some k → W0.heap.size ≤ k) := fun k e => (HP.out.row.lt k e).1
                have hq9 : qs.length ≤ 2 * n := by have := HLN.out.2; omega
                clear htn htp htx
                go_wp2_with (first | (go_at_call 25; first | (refine (G1 _).mono ?_; rintro e w' ⟨rfl, hw⟩; have hw2 := hw.symm; clear hw; subst hw2) | (refine (G2 _).mono ?_; rintro e w' ⟨rfl, hw⟩; have hw2 := hw.symm; clear hw; subst hw2)) | (go_at_call 27; refine GC.mono ?_; rintro e w' ⟨rfl, hw⟩; have hw2 := hw.symm; clear hw; subst hw2) | (at_builtin; refine wpList_append_lies _ rfl _ _ 31 rfl W0.heap.size 71 i0 (.agg #[.slice none 0 0, .int .i64 0]) 2 32 Try.underlying31 hi hz0 hz1 hz2 rfl (by decide) _ qs.length _ rfl (HP.out.row.alloc _) ⟨wr.heap.size, 0, none⟩ 1 1 [.slice ta tn tc, .int .i64 (-1)] rfl rfl (rpart_new wr _ _) (by intro u hu; simp at hu; rcases hu with rfl | rfl <;> rfl) (by decide) (by unfold maxLen; omega) (by omega) (by simp; omega) (wr.heap.size + 1) (by simp) ?_))
                intro g4 c4 w4 hown4 hgrow4 hat4 hlt4
                have hXA : OB (wr.alloc (.cells #[.slice ta tn tc, .int .i64 (-1)] 71)) W0.heap.size (.slice ta tn tc) tx := HX.out.below ((Below.refl _ _).alloc (Nat.le_refl _) _)
                have HP4 : Hid (PsAt w4 W0.heap.size 71 (.slice (some ⟨g4, 0, none⟩) (qs.length + 1) c4) (qs ++ [(.slice ta tn tc, tx, -1)])) := (HP.out.alloc _).snoc (by decide) _ _ _ hown4 hgrow4 (World.ownsRow.kept hXA hgrow4 (own_apart hXA (HP.out.alloc _).row (by decide))) HAP.out
                have HB4 : Hid (Below W0.heap.size W0 w4) := Below.grown (HBE.out.alloc hsz _) hgrow4 (by simp; omega) HVB.out
                have hsz4 := HB4.out.size
                have HPB : Hid (PsAt (w4.alloc (.cells #[] 5)) W0.heap.size 71 (.slice (some ⟨g4, 0, none⟩) (qs.length + 1) c4) (qs ++ [(.slice ta tn tc, tx, -1)])) := HP4.out.alloc _
                have HVB4 : Hid (∀ k, (Value.slice (some ⟨g4, 0, none⟩) (qs.length + 1) c4).ownBlock = some k → W0.heap.size ≤ k) := fun k e => (HP4.out.row.lt k e).1
                have HL4 : Hid ((qs ++ [((.slice ta tn tc : Value), (tx : List Int), (-1 : Int))]).length = qs.length + 1) := by show (qs ++ [_]).length = _; rw [List.length_append]; rfl
                clear hown4 hgrow4 hat4 hlt4 hXA HP HX HAP HBE
                go_wp2_with (first | (go_at_call 25; first | (refine (G1 _).mono ?_; rintro e w' ⟨rfl, hw⟩; have hw2 := hw.symm; clear hw; subst hw2) | (refine (G2 _).mono ?_; rintro e w' ⟨rfl, hw⟩; have hw2 := hw.symm; clear hw; subst hw2)) | (go_at_call 27; refine GC.mono ?_; rintro e w' ⟨rfl, hw⟩; have hw2 := hw.symm; clear hw; subst hw2) | (at_builtin; refine wpList_append_lies _ rfl _ _ 31 rfl W0.heap.size 71 i0 (.agg #[.slice none 0 0, .int .i64 0]) 2 32 Try.underlying31 hi hz0 hz1 hz2 rfl (by decide) _ (qs.length + 1) _ rfl (by have := HPB.out.row; rw [HL4.out] at this; exact this.alloc _) ⟨w4.heap.size + 1, 0, none⟩ 1 1 [.slice none 0 0, .int .i64 gv] rfl rfl (by have := rpart_new (w4.alloc (.cells #[] 5)) (.slice none 0 0) (.int .i64 gv); simpa using this) (by intro u hu; simp at hu; rcases hu with rfl | rfl <;> rfl) (by decide) (by unfold maxLen; omega) (by omega) (by simp; omega) (w4.heap.size + 2) (by simp) ?_))
                intro g c5 w5 hown hgrow hat hlt5
                have R1 : Hid (PsAt w5 W0.heap.size 71 (.slice (some ⟨g, 0, none⟩) (qs.length + 1 + 1) c5) ((qs ++ [((.slice ta tn tc : Value), (tx : List Int), (-1 : Int))]) ++ [(.slice none 0 0, [], gv)])) := (HPB.out.alloc _).snoc (by decide) _ _ _ (by rw [HL4.out]; exact hown) hgrow (OB.nil _ _) (fun q hq g hg e => by cases e)
                have R2 : Hid (OB w5 W0.heap.size (.slice (some ⟨w4.heap.size, 0, none⟩) 0 0) []) := by
                  have h2 : OB ((w4.alloc (.cells #[] 5)).alloc (.cells #[.slice none 0 0, .int .i64 gv] 71)) W0.heap.size (.slice (some ⟨w4.heap.size, 0, none⟩) 0 0) [] := OB.below (World.ownsRow_lit (base := W0.heap.size) (e := 5) (size := 1) w4 #[] 0 hsz4 (by decide) rfl) ((Below.refl _ _).alloc (Nat.le_refl _) _)
                  exact World.ownsRow.kept h2 hgrow (own_apart h2 (HPB.out.alloc _).row (by decide))
                have R3 : Hid (∀ q ∈ (qs ++ [((.slice ta tn tc : Value), (tx : List Int), (-1 : Int))]) ++ [((.slice none 0 0 : Value), ([] : List Int), gv)], ∀ g, q.1.ownBlock = some g → (Value.slice (some ⟨w4.heap.size, 0, none⟩) 0 0).ownBlock ≠ some g) := fun q hq g hg e0 => by
                  rcases List.mem_append.1 hq with hq | hq
                  · cases e0; have h9 := (World.ownsRow.lt (HP4.out.txt q hq) _ hg).2; first | omega | (simp only [World.size_alloc] at h9; omega)
                  · obtain rfl : q = (.slice none 0 0, [], gv) := by simpa using hq
                    cases hg
                have R4 : Hid (Below W0.heap.size W0 w5) := Below.grown ((HB4.out.alloc hsz4 _).alloc (by simp; omega) _) hgrow (by simp; omega) HVB4.out
                have R5 : Hid (([] : List Int).length ≤ a + 2 ∧ ((qs ++ [((.slice ta tn tc : Value), (tx : List Int), (-1 : Int))]) ++ [((.slice none 0 0 : Value), ([] : List Int), gv)]).length ≤ 2 * (a + 2)) := ⟨by simp, by rw [List.length_append, HL4.out]; have := HLN.out.2; simp only [List.length_cons, List.length_nil]; omega⟩
                have R6 : Hid (Ends (((qs ++ [((.slice ta tn tc : Value), (tx : List Int), (-1 : Int))]) ++ [((.slice none 0 0 : Value), ([] : List Int), gv)]).map Prod.snd)) := by rw [List.map_append]; exact ends_snoc _ gv HG9.out
                have R7 : Hid (tm l groups T (l.length - (a + 2) + 1) (a + 2) (((qs ++ [((.slice ta tn tc : Value), (tx : List Int), (-1 : Int))]) ++ [((.slice none 0 0 : Value), ([] : List Int), gv)]).map Prod.snd ++ flush []) = R) := by rw [List.map_append, List.map_append, show flush ([] : List Int) = [] from rfl, List.append_nil]; exact HKN.out
                clear hown hgrow hat hlt5 HP4 HPB HLN HB4 HKN HEN HG9
                go_wp2
                go_roundw
                case rel => exact ⟨a + 2, _, [], by omega, by go_num, R1, R2, R3, R5, R6, R7, R4⟩
                case measure => simp [intOf]; omega
            · rw [if_neg hz] at h1
              have HER : Hid (R = Rs.no ge a) := h1
              have hz2 : (ge == 0) = false := by simpa using hz
              have hz3 : (ge != 0) = true := by simpa using hz
              clear h1 HGE
              obtain ⟨⟨k0, k1⟩, f0, f1⟩ := blk2 HG1.out
              go_wp2_with (first | (go_at_call 25; first | (refine (G1 _).mono ?_; rintro e w' ⟨rfl, hw⟩; have hw2 := hw.symm; clear hw; subst hw2) | (refine (G2 _).mono ?_; rintro e w' ⟨rfl, hw⟩; have hw2 := hw.symm; clear hw; subst hw2)) | (go_at_call 27; refine GC.mono ?_; rintro e w' ⟨rfl, hw⟩; have hw2 := hw.symm; clear hw; subst hw2))
              all_goals
                refine bodyPost_ret (results2 Try.results10 _ _ (.slice none 0 0) w.heap.size _ #[.int .i64 ge, .int .i64 a] _ _ rfl rfl (set2 HG1.out) Try.underlying28 rfl infoFault) rfl ⟨?_, ?_⟩
                · rw [HER.out]; rfl
                · exact ((HBA.out.trans (HBE.out.mono (by omega))).setCell (by simp) _).setCell (by simp) _

          · have hn2' := hn2
            have q2 : (1 : Int) < ((n - (a + 1) : Nat) : Int) := by omega
            have c2 := q6 q2
            clear q6 hn2 hn2'
            have GC := rgroup_some [x1] groups aT nT cT T wr (fun x hx => HRG.out x (HDM.out x hx)) (by simp) (by simp) HTr.out
            have h1 := HTM.out _ _ HMW.out
            have HGE := HGEM.out _ _ HMW.out
            obtain ⟨gv, ge, hge⟩ : ∃ x y, grpV [x1] groups T = (x, y) := ⟨_, _, rfl⟩
            rw [hge] at GC h1 HGE
            simp only at GC h1 HGE
            generalize strOfNums [x1] = S9 at *
            clear hge HDM HMW HTM HGEM
            by_cases hz : ge = 0
            · subst hz
              rw [if_pos rfl] at h1
              have HG9 : Hid (0 ≤ gv) := HGE rfl
              clear HGE
              have HKN : Hid (tm l groups T (l.length - (a + 2) + 1) (a + 2) ((qs.map Prod.snd ++ flush tx) ++ [([], gv)]) = R) := h1.symm
              clear h1
              by_cases htx : tx = []
              · subst htx
                have hfl : flush ([] : List Int) = [] := rfl
                rw [hfl, List.append_nil] at HKN
                have htn : tn = 0 := by obtain ⟨x, c, e⟩ := own_slice HX.out; cases e; rfl
                subst htn
                have HPB : Hid (PsAt (wr.alloc (.cells #[] 5)) W0.heap.size 71 u8 qs) := HP.out.alloc _
                have HVB : Hid (∀ k, u8.ownBlock = some k → W0.heap.size ≤ k) := fun k e => (HP.out.row.lt k e).1
                have hq9 : qs.length ≤ 2 * n := by have := HLN.out.2; omega
                go_wp2_with (first | (go_at_call 25; first | (refine (G1 _).mono ?_; rintro e w' ⟨rfl, hw⟩; have hw2 := hw.symm; clear hw; subst hw2) | (refine (G2 _).mono ?_; rintro e w' ⟨rfl, hw⟩; have hw2 := hw.symm; clear hw; subst hw2)) | (go_at_call 27; refine GC.mono ?_; rintro e w' ⟨rfl, hw⟩; have hw2 := hw.symm; clear hw; subst hw2) | (at_builtin; refine wpList_append_lies _ rfl _ _ 31 rfl W0.heap.size 71 i0 (.agg #[.slice none 0 0, .int .i64 0]) 2 32 Try.underlying31 hi hz0 hz1 hz2 rfl (by decide) _ qs.length _ rfl (HPB.out.row.alloc _) ⟨wr.heap.size + 1, 0, none⟩ 1 1 [.slice none 0 0, .int .i64 gv] rfl rfl (by have := rpart_new (wr.alloc (.cells #[] 5)) (.slice none 0 0) (.int .i64 gv); simpa using this) (by intro u hu; simp at hu; rcases hu with rfl | rfl <;> rfl) (by decide) (by unfold maxLen; omega) (by omega) (by simp; omega) (wr.heap.size + 2) (by simp) ?_))
                intro g c5 w5 hown hgrow hat hlt5
                have R1 : Hid (PsAt w5 W0.heap.size 71 (.slice (some ⟨g, 0, none⟩) (qs.length + 1) c5) (qs ++ [(.slice none 0 0, [], gv)])) := (HPB.out.alloc _).snoc (by decide) _ _ _ hown hgrow (OB.nil _ _) (fun q hq g hg e => by cases e)
                have R2 : Hid (OB w5 W0.heap.size (.slice (some ⟨wr.heap.size, 0, none⟩) 0 0) []) := by
                  have h2 : OB ((wr.alloc (.cells #[] 5)).alloc (.cells #[.slice none 0 0, .int .i64 gv] 71)) W0.heap.size (.slice (some ⟨wr.heap.size, 0, none⟩) 0 0) [] := OB.below (World.ownsRow_lit (base := W0.heap.size) (e := 5) (size := 1) wr #[] 0 hsz (by decide) rfl) ((Below.refl _ _).alloc (Nat.le_refl _) _)
                  exact World.ownsRow.kept h2 hgrow (own_apart h2 (HPB.out.alloc _).row (by decide))
                have R3 : Hid (∀ q ∈ qs ++ [((.slice none 0 0 : Value), ([] : List Int), gv)], ∀ g, q.1.ownBlock = some g → (Value.slice (some ⟨wr.heap.size, 0, none⟩) 0 0).ownBlock ≠ some g) := fun q hq g hg e0 => by
                  rcases List.mem_append.1 hq with hq | hq
                  · cases e0; have h9 := (World.ownsRow.lt (HP.out.txt q hq) _ hg).2; first | omega | (simp only [World.size_alloc] at h9; omega)
                  · obtain rfl : q = (.slice none 0 0, [], gv) := by simpa using hq
                    cases hg
                have R4 : Hid (Below W0.heap.size W0 w5) := Below.grown ((HBE.out.alloc hsz _).alloc (by simp; omega) _) hgrow (by simp; omega) HVB.out
                have R5 : Hid (([] : List Int).length ≤ a + 2 ∧ (qs ++ [((.slice none 0 0 : Value), ([] : List Int), gv)]).length ≤ 2 * (a + 2)) := ⟨by simp, by rw [List.length_append]; have := HLN.out.2; simp only [List.length_cons, List.length_nil]; omega⟩
                have R6 : Hid (Ends ((qs ++ [((.slice none 0 0 : Value), ([] : List Int), gv)]).map Prod.snd)) := by rw [List.map_append]; exact ends_snoc _ gv HG9.out
                have R7 : Hid (tm l groups T (l.length - (a + 2) + 1) (a + 2) ((qs ++ [((.slice none 0 0 : Value), ([] : List Int), gv)]).map Prod.snd ++ flush []) = R) := by rw [List.map_append, hfl, List.append_nil]; exact HKN.out
                clear hown hgrow hat hlt5 HP HPB HX HAP HLN HBE HKN HEN HG9
                go_wp2
                go_roundw
                case rel => exact ⟨a + 2, _, [], by omega, by go_num, R1, R2, R3, R5, R6, R7, R4⟩
                case measure => simp [intOf]; omega
              · have hfl : flush tx = [(tx, -1)] := by unfold flush; rw [if_neg htx]
                rw [hfl] at HKN
                have htn : tn = tx.length := by obtain ⟨x, c, e⟩ := own_slice HX.out; cases e; rfl
                have htp : 0 < tx.length := List.length_pos_iff.2 htx
                have htp2 : (0 : Int) < (tn : Int) := by omega
                have HTN : Hid (tn = tx.length) := htn
                have HTX : Hid (tx.length ≤ n) := by have := HLN.out.1; show tx.length ≤ n; omega
                have HVB : Hid (∀ k, u8.ownBlock = some k → W0.heap.size ≤ k) := fun k e => (HP.out.row.lt k e).1
                have hq9 : qs.length ≤ 2 * n := by have := HLN.out.2; omega
                clear htn htp htx
                go_wp2_with (first | (go_at_call 25; first | (refine (G1 _).mono ?_; rintro e w' ⟨rfl, hw⟩; have hw2 := hw.symm; clear hw; subst hw2) | (refine (G2 _).mono ?_; rintro e w' ⟨rfl, hw⟩; have hw2 := hw.symm; clear hw; subst hw2)) | (go_at_call 27; refine GC.mono ?_; rintro e w' ⟨rfl, hw⟩; have hw2 := hw.symm; clear hw; subst hw2) | (at_builtin; refine wpList_append_lies _ rfl _ _ 31 rfl W0.heap.size 71 i0 (.agg #[.slice none 0 0, .int .i64 0]) 2 32 Try.underlying31 hi hz0 hz1 hz2 rfl (by decide) _ qs.length _ rfl (HP.out.row.alloc _) ⟨wr.heap.size, 0, none⟩ 1 1 [.slice ta tn tc, .int .i64 (-1)] rfl rfl (rpart_new wr _ _) (by intro u hu; simp at hu; rcases hu with rfl | rfl <;> rfl) (by decide) (by unfold maxLen; omega) (by omega) (by simp; omega) (wr.heap.size + 1) (by simp) ?_))
                intro g4 c4 w4 hown4 hgrow4 hat4 hlt4
                have hXA : OB (wr.alloc (.cells #[.slice ta tn tc, .int .i64 (-1)] 71)) W0.heap.size (.slice ta tn tc) tx := HX.out.below ((Below.refl _ _).alloc (Nat.le_refl _) _)
                have HP4 : Hid (PsAt w4 W0.heap.size 71 (.slice (some ⟨g4, 0, none⟩) (qs.length + 1) c4) (qs ++ [(.slice ta tn tc, tx, -1)])) := (HP.out.alloc _).snoc (by decide) _ _ _ hown4 hgrow4 (World.ownsRow.kept hXA hgrow4 (own_apart hXA (HP.out.alloc _).row (by decide))) HAP.out
                have HB4 : Hid (Below W0.heap.size W0 w4) := Below.grown (HBE.out.alloc hsz _) hgrow4 (by simp; omega) HVB.out
                have hsz4 := HB4.out.size
                have HPB : Hid (PsAt (w4.alloc (.cells #[] 5)) W0.heap.size 71 (.slice (some ⟨g4, 0, none⟩) (qs.length + 1) c4) (qs ++ [(.slice ta tn tc, tx, -1)])) := HP4.out.alloc _
                have HVB4 : Hid (∀ k, (Value.slice (some ⟨g4, 0, none⟩) (qs.length + 1) c4).ownBlock = some k → W0.heap.size ≤ k) := fun k e => (HP4.out.row.lt k e).1
                have HL4 : Hid ((qs ++ [((.slice ta tn tc : Value), (tx : List Int), (-1 : Int))]).length = qs.length + 1) := by show (qs ++ [_]).length = _; rw [List.length_append]; rfl
                clear hown4 hgrow4 hat4 hlt4 hXA HP HX HAP HBE
                go_wp2_with (first | (go_at_call 25; first | (refine (G1 _).mono ?_; rintro e w' ⟨rfl, hw⟩; have hw2 := hw.symm; clear hw; subst hw2) | (refine (G2 _).mono ?_; rintro e w' ⟨rfl, hw⟩; have hw2 := hw.symm; clear hw; subst hw2)) | (go_at_call 27; refine GC.mono ?_; rintro e w' ⟨rfl, hw⟩; have hw2 := hw.symm; clear hw; subst hw2) | (at_builtin; refine wpList_append_lies _ rfl _ _ 31 rfl W0.heap.size 71 i0 (.agg #[.slice none 0 0, .int .i64 0]) 2 32 Try.underlying31 hi hz0 hz1 hz2 rfl (by decide) _ (qs.length + 1) _ rfl (by have := HPB.out.row; rw [HL4.out] at this; exact this.alloc _) ⟨w4.heap.size + 1, 0, none⟩ 1 1 [.slice none 0 0, .int .i64 gv] rfl rfl (by have := rpart_new (w4.alloc (.cells #[] 5)) (.slice none 0 0) (.int .i64 gv); simpa using this) (by intro u hu; simp at hu; rcases hu with rfl | rfl <;> rfl) (by decide) (by unfold maxLen; omega) (by omega) (by simp; omega) (w4.heap.size + 2) (by simp) ?_))
                intro g c5 w5 hown hgrow hat hlt5
                have R1 : Hid (PsAt w5 W0.heap.size 71 (.slice (some ⟨g, 0, none⟩) (qs.length + 1 + 1) c5) ((qs ++ [((.slice ta tn tc : Value), (tx : List Int), (-1 : Int))]) ++ [(.slice none 0 0, [], gv)])) := (HPB.out.alloc _).snoc (by decide) _ _ _ (by rw [HL4.out]; exact hown) hgrow (OB.nil _ _) (fun q hq g hg e => by cases e)
                have R2 : Hid (OB w5 W0.heap.size (.slice (some ⟨w4.heap.size, 0, none⟩) 0 0) []) := by
                  have h2 : OB ((w4.alloc (.cells #[] 5)).alloc (.cells #[.slice none 0 0, .int .i64 gv] 71)) W0.heap.size (.slice (some ⟨w4.heap.size, 0, none⟩) 0 0) [] := OB.below (World.ownsRow_lit (base := W0.heap.size) (e := 5) (size := 1) w4 #[] 0 hsz4 (by decide) rfl) ((Below.refl _ _).alloc (Nat.le_refl _) _)
                  exact World.ownsRow.kept h2 hgrow (own_apart h2 (HPB.out.alloc _).row (by decide))
                have R3 : Hid (∀ q ∈ (qs ++ [((.slice ta tn tc : Value), (tx : List Int), (-1 : Int))]) ++ [((.slice none 0 0 : Value), ([] : List Int), gv)], ∀ g, q.1.ownBlock = some g → (Value.slice (some ⟨w4.heap.size, 0, none⟩) 0 0).ownBlock ≠ some g) := fun q hq g hg e0 => by
                  rcases List.mem_append.1 hq with hq | hq
                  · cases e0; have h9 := (World.ownsRow.lt (HP4.out.txt q hq) _ hg).2; first | omega | (simp only [World.size_alloc] at h9; omega)
                  · obtain rfl : q = (.slice none 0 0, [], gv) := by simpa using hq
                    cases hg
                have R4 : Hid (Below W0.heap.size W0 w5) := Below.grown ((HB4.out.alloc hsz4 _).alloc (by simp; omega) _) hgrow (by simp; omega) HVB4.out
                have R5 : Hid (([] : List Int).length ≤ a + 2 ∧ ((qs ++ [((.slice ta tn tc : Value), (tx : List Int), (-1 : Int))]) ++ [((.slice none 0 0 : Value), ([] : List Int), gv)]).length ≤ 2 * (a + 2)) := ⟨by simp, by rw [List.length_append, HL4.out]; have := HLN.out.2; simp only [List.length_cons, List.length_nil]; omega⟩
                have R6 : Hid (Ends (((qs ++ [((.slice ta tn tc : Value), (tx : List Int), (-1 : Int))]) ++ [((.slice none 0 0 : Value), ([] : List Int), gv)]).map Prod.snd)) := by rw [List.map_append]; exact ends_snoc _ gv HG9.out
                have R7 : Hid (tm l groups T (l.length - (a + 2) + 1) (a + 2) (((qs ++ [((.slice ta tn tc : Value), (tx : List Int), (-1 : Int))]) ++ [((.slice none 0 0 : Value), ([] : List Int), gv)]).map Prod.snd ++ flush []) = R) := by rw [List.map_append, List.map_append, show flush ([] : List Int) = [] from rfl, List.append_nil]; exact HKN.out
                clear hown hgrow hat hlt5 HP4 HPB HLN HB4 HKN HEN HG9
                go_wp2
                go_roundw
                case rel => exact ⟨a + 2, _, [], by omega, by go_num, R1, R2, R3, R5, R6, R7, R4⟩
                case measure => simp [intOf]; omega
            · rw [if_neg hz] at h1
              have HER : Hid (R = Rs.no ge a) := h1
              have hz2 : (ge == 0) = false := by simpa using hz
              have hz3 : (ge != 0) = true := by simpa using hz
              clear h1 HGE
              obtain ⟨⟨k0, k1⟩, f0, f1⟩ := blk2 HG1.out
              go_wp2_with (first | (go_at_call 25; first | (refine (G1 _).mono ?_; rintro e w' ⟨rfl, hw⟩; have hw2 := hw.symm; clear hw; subst hw2) | (refine (G2 _).mono ?_; rintro e w' ⟨rfl, hw⟩; have hw2 := hw.symm; clear hw; subst hw2)) | (go_at_call 27; refine GC.mono ?_; rintro e w' ⟨rfl, hw⟩; have hw2 := hw.symm; clear hw; subst hw2))
              all_goals
                refine bodyPost_ret (results2 Try.results10 _ _ (.slice none 0 0) w.heap.size _ #[.int .i64 ge, .int .i64 a] _ _ rfl rfl (set2 HG1.out) Try.underlying28 rfl infoFault) rfl ⟨?_, ?_⟩
                · rw [HER.out]; rfl
                · exact ((HBA.out.trans (HBE.out.mono (by omega))).setCell (by simp) _).setCell (by simp) _


      | false =>
        by_cases h123 : l.getD (a + 1) 0 = 123
        · have hl1 : a + 1 < n := by rw [← hl.out]; exact getD_in (by rw [h123]; decide)
          have c1 := hcc (a + 1) hl1
          rw [h123] at c1
          have hbr := brace_ref groups T (l.drop a) (by rw [hd0 0, Nat.add_zero]; exact h36e) (by rw [hd0 1]; exact h123)
          have emk : mk (l.drop a) = mkB (l.drop a) := by unfold mk; rw [hd0 0, hd0 1, Nat.add_zero, if_neg (by rw [h36e]; exact fun h => h rfl), if_neg h1, if_pos h123]
          rw [← emk, List.drop_drop] at hbr
          have h36n : ¬ l.getD (a + 1) 0 = 36 := h1
          have G1 := fun W => rdigit_any 123 W
          simp only [show dg 123 = false from rfl] at G1
          clear hd0 emk hr1 hr2
          clear h1 h123 h36 h36e
          have HGEM : Hid (∀ D S, meant groups T (mk (l.drop a)) = ofWord groups T D S → (grpV D groups T).2 = 0 → 0 ≤ (grpV D groups T).1) := by
            intro D S e hz
            have := meant_ge groups T (l.drop a)
            rw [e] at this
            unfold ofWord at this
            rw [if_pos hz] at this
            exact this
          have HTM : Hid (∀ D S, meant groups T (mk (l.drop a)) = ofWord groups T D S → R = if (grpV D groups T).2 = 0 then tm l groups T (l.length - (a + S) + 1) (a + S) ((qs.map Prod.snd ++ flush tx) ++ [([], (grpV D groups T).1)]) else .no (grpV D groups T).2 a) := by
            intro D S e
            have h1 := tm_meant l groups T a (qs.map Prod.snd ++ flush tx) hal (HNT.out (by assumption))
            rw [HK.out, e] at h1
            unfold ofWord at h1
            by_cases hz : (grpV D groups T).2 = 0
            · rw [if_pos hz] at h1 ⊢
              simpa using h1
            · rw [if_neg hz] at h1 ⊢
              simp only at h1
              rw [if_neg hz] at h1
              exact h1
          have HBD : Hid (meant groups T (mk (l.drop a)) = (220, 0, 0) → R = Rs.no 220 a) := by
            intro e
            have h1 := tm_meant l groups T a (qs.map Prod.snd ++ flush tx) hal (HNT.out (by assumption))
            rw [HK.out, e] at h1
            exact h1
          clear HNT HK
          clear hd1 hcc
          have hca : ¬ cap = a + 1 := by omega
          have q1 : (0 : Int) < ((n - (a + 1) : Nat) : Int) := by omega
          have q1c : (1 : Int) ≤ ((n - (a + 1) : Nat) : Int) := by omega
          by_cases hc2 : cap - (a + 1) = 1
          · have hcap : cap = a + 2 := by omega
            have hnn : n = a + 2 := by omega
            subst hcap
            subst hnn
            have hix : ix 125 (l.drop (a + 2)) = -1 := by rw [List.drop_eq_nil_of_le (by rw [hl.out]; exact Nat.le_refl _)]; rfl
            rw [if_pos hix] at hbr
            have h9 : R = Rs.no 220 a := HBD.out hbr
            have HER : Hid (R = Rs.no 220 a) := h9
            have WD : Calls Try.prog 26 #[.slice (some ⟨b, off + (a + 1), none⟩) 0 0] wr fun e w' => e = .returned (.tuple #[.string ⟨#[]⟩, .bool false]) ∧ w' = wr := word_any _ 0 0 [] wr ⟨rfl, Nat.le_refl _, by omega, (fun e => by cases e), (fun i => by simp), .inl rfl⟩
            clear hbr hix h9 hc2 HTM HGEM HBD
            obtain ⟨⟨k0, k1⟩, f0, f1⟩ := blk2 HG1.out
            go_wp2_with (first | (go_at_call 26; refine WD.mono ?_; rintro e w' ⟨rfl, hw⟩; have hw2 := hw.symm; clear hw; subst hw2) | (go_at_call 25; first | (refine (G1 _).mono ?_; rintro e w' ⟨rfl, hw⟩; have hw2 := hw.symm; clear hw; subst hw2)))
            all_goals
              refine bodyPost_ret (results2 Try.results10 _ _ (.slice none 0 0) w.heap.size _ #[.int .i64 220, .int .i64 a] _ _ rfl rfl (set2 HG1.out) Try.underlying28 rfl infoFault) rfl ⟨?_, ?_⟩
              · rw [HER.out]; rfl
              · exact ((HBA.out.trans (HBE.out.mono (by omega))).setCell (by simp) _).setCell (by simp) _

          · have eb1 : n - (a + 1) - 1 = n - (a + 2) := by omega
            have eb2 : cap - (a + 1) - 1 = cap - (a + 2) := by omega
            have WD : Calls Try.prog 26 #[.slice (some ⟨b, off + (a + 1) + 1, none⟩) (n - (a + 1) - 1) (cap - (a + 1) - 1)] wr fun e w' => e = .returned (wordV (l.drop (a + 2))) ∧ w' = wr := by
              have h9 := HBr.out.sub (a + 2) n (by omega) (Nat.le_refl _)
              rw [if_neg (by omega), List.take_of_length_le (by rw [List.length_drop, hl.out]; exact Nat.le_refl _), show Option.map (fun x : Addr => x.add (a + 2)) (some ⟨b, off, none⟩) = some ⟨b, off + (a + 1) + 1, none⟩ from by simp [Addr.add], ← eb1, ← eb2] at h9
              exact word_any _ _ _ _ wr h9
            have hgx := ix_ge 125 (l.drop (a + 2))
            have hlx := ix_lt 125 (l.drop (a + 2))
            rw [List.length_drop, hl.out] at hlx
            unfold wordV at WD
            by_cases hix : ix 125 (l.drop (a + 2)) = -1
            · rw [if_pos hix] at hbr WD
              have HER : Hid (R = Rs.no 220 a) := HBD.out hbr
              clear hbr hix HTM HGEM HBD hgx hlx
              obtain ⟨⟨k0, k1⟩, f0, f1⟩ := blk2 HG1.out
              go_wp2_with (first | (go_at_call 26; refine WD.mono ?_; rintro e w' ⟨rfl, hw⟩; have hw2 := hw.symm; clear hw; subst hw2) | (go_at_call 25; first | (refine (G1 _).mono ?_; rintro e w' ⟨rfl, hw⟩; have hw2 := hw.symm; clear hw; subst hw2)))
              all_goals
                refine bodyPost_ret (results2 Try.results10 _ _ (.slice none 0 0) w.heap.size _ #[.int .i64 220, .int .i64 a] _ _ rfl rfl (set2 HG1.out) Try.underlying28 rfl infoFault) rfl ⟨?_, ?_⟩
                · rw [HER.out]; rfl
                · exact ((HBA.out.trans (HBE.out.mono (by omega))).setCell (by simp) _).setCell (by simp) _

            · rw [if_neg hix] at hbr WD
              obtain ⟨m, hm⟩ : ∃ m : Nat, (ix 125 (l.drop (a + 2))).toNat = m := ⟨_, rfl⟩
              rw [hm] at hbr WD
              have hmn : a + 2 + m < n := by omega
              have hD : ((l.drop (a + 2)).take m).length = m := by rw [List.length_take, List.length_drop, hl.out]; omega
              have HMW : Hid (meant groups T (mk (l.drop a)) = ofWord groups T ((l.drop (a + 2)).take m) (m + 3)) := hbr
              have HDM : Hid (∀ x ∈ (l.drop (a + 2)).take m, x ∈ l) := fun x hx => List.mem_of_mem_drop (List.mem_of_mem_take hx)
              have hSz : (strOfNums ((l.drop (a + 2)).take m)).size = m := by rw [str_size, hD]
              clear hbr hix hm hgx hlx HBD
              rcases Nat.eq_zero_or_pos m with hm0 | hm0
              · subst hm0
                rw [List.take_zero] at HMW WD
                have e0 : strOfNums [] = ⟨#[]⟩ := rfl
                rw [e0] at WD
                have h9 := HTM.out _ _ HMW.out
                rw [grpV_nil, if_neg (by decide)] at h9
                have HER : Hid (R = Rs.no 220 a) := h9
                clear h9 HMW HDM hSz hD HTM HGEM e0
                obtain ⟨⟨k0, k1⟩, f0, f1⟩ := blk2 HG1.out
                go_wp2_with (first | (go_at_call 26; refine WD.mono ?_; rintro e w' ⟨rfl, hw⟩; have hw2 := hw.symm; clear hw; subst hw2) | (go_at_call 27; refine (rgroup_none groups _ _).mono ?_; rintro e w' ⟨rfl, hw⟩; have hw2 := hw.symm; clear hw; subst hw2) | (go_at_call 25; first | (refine (G1 _).mono ?_; rintro e w' ⟨rfl, hw⟩; have hw2 := hw.symm; clear hw; subst hw2)))
                all_goals
                  refine bodyPost_ret (results2 Try.results10 _ _ (.slice none 0 0) w.heap.size _ #[.int .i64 220, .int .i64 a] _ _ rfl rfl (set2 HG1.out) Try.underlying28 rfl infoFault) rfl ⟨?_, ?_⟩
                  · rw [HER.out]; rfl
                  · exact ((HBA.out.trans (HBE.out.mono (by omega))).setCell (by simp) _).setCell (by simp) _

              · generalize (l.drop (a + 2)).take m = D at *
                have GC := rgroup_some D groups aT nT cT T wr (fun x hx => HRG.out x (HDM.out x hx)) (by rw [hD]; omega) (by rw [hD]; exact hm0) HTr.out
                have h1 := HTM.out _ _ HMW.out
                have HGE := HGEM.out _ _ HMW.out
                obtain ⟨gv, ge, hge⟩ : ∃ x y, grpV D groups T = (x, y) := ⟨_, _, rfl⟩
                rw [hge] at GC h1 HGE
                simp only at GC h1 HGE
                generalize strOfNums D = S9 at *
                clear hge HDM HMW HTM HGEM
                by_cases hz : ge = 0
                · subst hz
                  rw [if_pos rfl] at h1
                  have HG9 : Hid (0 ≤ gv) := HGE rfl
                  clear HGE
                  have HKN : Hid (tm l groups T (l.length - (a + (m + 3)) + 1) (a + (m + 3)) ((qs.map Prod.snd ++ flush tx) ++ [([], gv)]) = R) := h1.symm
                  clear h1
                  by_cases htx : tx = []
                  · subst htx
                    have hfl : flush ([] : List Int) = [] := rfl
                    rw [hfl, List.append_nil] at HKN
                    have htn : tn = 0 := by obtain ⟨x, c, e⟩ := own_slice HX.out; cases e; rfl
                    subst htn
                    have HPB : Hid (PsAt (wr.alloc (.cells #[] 5)) W0.heap.size 71 u8 qs) := HP.out.alloc _
                    have HVB : Hid (∀ k, u8.ownBlock = some k → W0.heap.size ≤ k) := fun k e => (HP.out.row.lt k e).1
                    have hq9 : qs.length ≤ 2 * n := by have := HLN.out.2; omega
                    go_wp2_with (first | (go_at_call 26; refine WD.mono ?_; rintro e w' ⟨rfl, hw⟩; have hw2 := hw.symm; clear hw; subst hw2) | (go_at_call 25; first | (refine (G1 _).mono ?_; rintro e w' ⟨rfl, hw⟩; have hw2 := hw.symm; clear hw; subst hw2)) | (go_at_call 27; refine GC.mono ?_; rintro e w' ⟨rfl, hw⟩; have hw2 := hw.symm; clear hw; subst hw2) | (at_builtin; refine wpList_append_lies _ rfl _ _ 31 rfl W0.heap.size 71 i0 (.agg #[.slice none 0 0, .int .i64 0]) 2 32 Try.underlying31 hi hz0 hz1 hz2 rfl (by decide) _ qs.length _ rfl (HPB.out.row.alloc _) ⟨wr.heap.size + 1, 0, none⟩ 1 1 [.slice none 0 0, .int .i64 gv] rfl rfl (by have := rpart_new (wr.alloc (.cells #[] 5)) (.slice none 0 0) (.int .i64 gv); simpa using this) (by intro u hu; simp at hu; rcases hu with rfl | rfl <;> rfl) (by decide) (by unfold maxLen; omega) (by omega) (by simp; omega) (wr.heap.size + 2) (by simp) ?_))
                    intro g c5 w5 hown hgrow hat hlt5
                    have R1 : Hid (PsAt w5 W0.heap.size 71 (.slice (some ⟨g, 0, none⟩) (qs.length + 1) c5) (qs ++ [(.slice none 0 0, [], gv)])) := (HPB.out.alloc _).snoc (by decide) _ _ _ hown hgrow (OB.nil _ _) (fun q hq g hg e => by cases e)
                    have R2 : Hid (OB w5 W0.heap.size (.slice (some ⟨wr.heap.size, 0, none⟩) 0 0) []) := by
                      have h2 : OB ((wr.alloc (.cells #[] 5)).alloc (.cells #[.slice none 0 0, .int .i64 gv] 71)) W0.heap.size (.slice (some ⟨wr.heap.size, 0, none⟩) 0 0) [] := OB.below (World.ownsRow_lit (base := W0.heap.size) (e := 5) (size := 1) wr #[] 0 hsz (by decide) rfl) ((Below.refl _ _).alloc (Nat.le_refl _) _)
                      exact World.ownsRow.kept h2 hgrow (own_apart h2 (HPB.out.alloc _).row (by decide))
                    have R3 : Hid (∀ q ∈ qs ++ [((.slice none 0 0 : Value), ([] : List Int), gv)], ∀ g, q.1.ownBlock = some g → (Value.slice (some ⟨wr.heap.size, 0, none⟩) 0 0).ownBlock ≠ some g) := fun q hq g hg e0 => by
                      rcases List.mem_append.1 hq with hq | hq
                      · cases e0; have h9 := (World.ownsRow.lt (HP.out.txt q hq) _ hg).2; first | omega | (simp only [World.size_alloc] at h9; omega)
                      · obtain rfl : q = (.slice none 0 0, [], gv) := by simpa using hq
                        cases hg
                    have R4 : Hid (Below W0.heap.size W0 w5) := Below.grown ((HBE.out.alloc hsz _).alloc (by simp; omega) _) hgrow (by simp; omega) HVB.out
                    have R5 : Hid (([] : List Int).length ≤ a + (m + 3) ∧ (qs ++ [((.slice none 0 0 : Value), ([] : List Int), gv)]).length ≤ 2 * (a + (m + 3))) := ⟨by simp, by rw [List.length_append]; have := HLN.out.2; simp only [List.length_cons, List.length_nil]; omega⟩
                    have R6 : Hid (Ends ((qs ++ [((.slice none 0 0 : Value), ([] : List Int), gv)]).map Prod.snd)) := by rw [List.map_append]; exact ends_snoc _ gv HG9.out
                    have R7 : Hid (tm l groups T (l.length - (a + (m + 3)) + 1) (a + (m + 3)) ((qs ++ [((.slice none 0 0 : Value), ([] : List Int), gv)]).map Prod.snd ++ flush []) = R) := by rw [List.map_append, hfl, List.append_nil]; exact HKN.out
                    clear hown hgrow hat hlt5 HP HPB HX HAP HLN HBE HKN HEN HG9
                    go_wp2
                    go_roundw
                    case rel => exact ⟨a + (m + 3), _, [], by omega, by go_num, R1, R2, R3, R5, R6, R7, R4⟩
                    case measure => simp [intOf]; omega
                  · have hfl : flush tx = [(tx, -1)] := by unfold flush; rw [if_neg htx]
                    rw [hfl] at HKN
                    have htn : tn = tx.length := by obtain ⟨x, c, e⟩ := own_slice HX.out; cases e; rfl
                    have htp : 0 < tx.length := List.length_pos_iff.2 htx
                    have htp2 : (0 : Int) < (tn : Int) := by omega
                    have HTN : Hid (tn = tx.length) := htn
                    have HTX : Hid (tx.length ≤ n) := by have := HLN.out.1; show tx.length ≤ n; omega
                    have HVB : Hid (∀ k, u8.ownBlock = some k → W0.heap.size ≤ k) := fun k e => (HP.out.row.lt k e).1
                    have hq9 : qs.length ≤ 2 * n := by have := HLN.out.2; omega
                    clear htn htp htx
                    go_wp2_with (first | (go_at_call 26; refine WD.mono ?_; rintro e w' ⟨rfl, hw⟩; have hw2 := hw.symm; clear hw; subst hw2) | (go_at_call 25; first | (refine (G1 _).mono ?_; rintro e w' ⟨rfl, hw⟩; have hw2 := hw.symm; clear hw; subst hw2)) | (go_at_call 27; refine GC.mono ?_; rintro e w' ⟨rfl, hw⟩; have hw2 := hw.symm; clear hw; subst hw2) | (at_builtin; refine wpList_append_lies _ rfl _ _ 31 rfl W0.heap.size 71 i0 (.agg #[.slice none 0 0, .int .i64 0]) 2 32 Try.underlying31 hi hz0 hz1 hz2 rfl (by decide) _ qs.length _ rfl (HP.out.row.alloc _) ⟨wr.heap.size, 0, none⟩ 1 1 [.slice ta tn tc, .int .i64 (-1)] rfl rfl (rpart_new wr _ _) (by intro u hu; simp at hu; rcases hu with rfl | rfl <;> rfl) (by decide) (by unfold maxLen; omega) (by omega) (by simp; omega) (wr.heap.size + 1) (by simp) ?_))
                    intro g4 c4 w4 hown4 hgrow4 hat4 hlt4
                    have hXA : OB (wr.alloc (.cells #[.slice ta tn tc, .int .i64 (-1)] 71)) W0.heap.size (.slice ta tn tc) tx := HX.out.below ((Below.refl _ _).alloc (Nat.le_refl _) _)
                    have HP4 : Hid (PsAt w4 W0.heap.size 71 (.slice (some ⟨g4, 0, none⟩) (qs.length + 1) c4) (qs ++ [(.slice ta tn tc, tx, -1)])) := (HP.out.alloc _).snoc (by decide) _ _ _ hown4 hgrow4 (World.ownsRow.kept hXA hgrow4 (own_apart hXA (HP.out.alloc _).row (by decide))) HAP.out
                    have HB4 : Hid (Below W0.heap.size W0 w4) := Below.grown (HBE.out.alloc hsz _) hgrow4 (by simp; omega) HVB.out
                    have hsz4 := HB4.out.size
                    have HPB : Hid (PsAt (w4.alloc (.cells #[] 5)) W0.heap.size 71 (.slice (some ⟨g4, 0, none⟩) (qs.length + 1) c4) (qs ++ [(.slice ta tn tc, tx, -1)])) := HP4.out.alloc _
                    have HVB4 : Hid (∀ k, (Value.slice (some ⟨g4, 0, none⟩) (qs.length + 1) c4).ownBlock = some k → W0.heap.size ≤ k) := fun k e => (HP4.out.row.lt k e).1
                    have HL4 : Hid ((qs ++ [((.slice ta tn tc : Value), (tx : List Int), (-1 : Int))]).length = qs.length + 1) := by show (qs ++ [_]).length = _; rw [List.length_append]; rfl
                    clear hown4 hgrow4 hat4 hlt4 hXA HP HX HAP HBE
                    go_wp2_with (first | (go_at_call 26; refine WD.mono ?_; rintro e w' ⟨rfl, hw⟩; have hw2 := hw.symm; clear hw; subst hw2) | (go_at_call 25; first | (refine (G1 _).mono ?_; rintro e w' ⟨rfl, hw⟩; have hw2 := hw.symm; clear hw; subst hw2)) | (go_at_call 27; refine GC.mono ?_; rintro e w' ⟨rfl, hw⟩; have hw2 := hw.symm; clear hw; subst hw2) | (at_builtin; refine wpList_append_lies _ rfl _ _ 31 rfl W0.heap.size 71 i0 (.agg #[.slice none 0 0, .int .i64 0]) 2 32 Try.underlying31 hi hz0 hz1 hz2 rfl (by decide) _ (qs.length + 1) _ rfl (by have := HPB.out.row; rw [HL4.out] at this; exact this.alloc _) ⟨w4.heap.size + 1, 0, none⟩ 1 1 [.slice none 0 0, .int .i64 gv] rfl rfl (by have := rpart_new (w4.alloc (.cells #[] 5)) (.slice none 0 0) (.int .i64 gv); simpa using this) (by intro u hu; simp at hu; rcases hu with rfl | rfl <;> rfl) (by decide) (by unfold maxLen; omega) (by omega) (by simp; omega) (w4.heap.size + 2) (by simp) ?_))
                    intro g c5 w5 hown hgrow hat hlt5
                    have R1 : Hid (PsAt w5 W0.heap.size 71 (.slice (some ⟨g, 0, none⟩) (qs.length + 1 + 1) c5) ((qs ++ [((.slice ta tn tc : Value), (tx : List Int), (-1 : Int))]) ++ [(.slice none 0 0, [], gv)])) := (HPB.out.alloc _).snoc (by decide) _ _ _ (by rw [HL4.out]; exact hown) hgrow (OB.nil _ _) (fun q hq g hg e => by cases e)
                    have R2 : Hid (OB w5 W0.heap.size (.slice (some ⟨w4.heap.size, 0, none⟩) 0 0) []) := by
                      have h2 : OB ((w4.alloc (.cells #[] 5)).alloc (.cells #[.slice none 0 0, .int .i64 gv] 71)) W0.heap.size (.slice (some ⟨w4.heap.size, 0, none⟩) 0 0) [] := OB.below (World.ownsRow_lit (base := W0.heap.size) (e := 5) (size := 1) w4 #[] 0 hsz4 (by decide) rfl) ((Below.refl _ _).alloc (Nat.le_refl _) _)
                      exact World.ownsRow.kept h2 hgrow (own_apart h2 (HPB.out.alloc _).row (by decide))
                    have R3 : Hid (∀ q ∈ (qs ++ [((.slice ta tn tc : Value), (tx : List Int), (-1 : Int))]) ++ [((.slice none 0 0 : Value), ([] : List Int), gv)], ∀ g, q.1.ownBlock = some g → (Value.slice (some ⟨w4.heap.size, 0, none⟩) 0 0).ownBlock ≠ some g) := fun q hq g hg e0 => by
                      rcases List.mem_append.1 hq with hq | hq
                      · cases e0; have h9 := (World.ownsRow.lt (HP4.out.txt q hq) _ hg).2; first | omega | (simp only [World.size_alloc] at h9; omega)
                      · obtain rfl : q = (.slice none 0 0, [], gv) := by simpa using hq
                        cases hg
                    have R4 : Hid (Below W0.heap.size W0 w5) := Below.grown ((HB4.out.alloc hsz4 _).alloc (by simp; omega) _) hgrow (by simp; omega) HVB4.out
                    have R5 : Hid (([] : List Int).length ≤ a + (m + 3) ∧ ((qs ++ [((.slice ta tn tc : Value), (tx : List Int), (-1 : Int))]) ++ [((.slice none 0 0 : Value), ([] : List Int), gv)]).length ≤ 2 * (a + (m + 3))) := ⟨by simp, by rw [List.length_append, HL4.out]; have := HLN.out.2; simp only [List.length_cons, List.length_nil]; omega⟩
                    have R6 : Hid (Ends (((qs ++ [((.slice ta tn tc : Value), (tx : List Int), (-1 : Int))]) ++ [((.slice none 0 0 : Value), ([] : List Int), gv)]).map Prod.snd)) := by rw [List.map_append]; exact ends_snoc _ gv HG9.out
                    have R7 : Hid (tm l groups T (l.length - (a + (m + 3)) + 1) (a + (m + 3)) (((qs ++ [((.slice ta tn tc : Value), (tx : List Int), (-1 : Int))]) ++ [((.slice none 0 0 : Value), ([] : List Int), gv)]).map Prod.snd ++ flush []) = R) := by rw [List.map_append, List.map_append, show flush ([] : List Int) = [] from rfl, List.append_nil]; exact HKN.out
                    clear hown hgrow hat hlt5 HP4 HPB HLN HB4 HKN HEN HG9
                    go_wp2
                    go_roundw
                    case rel => exact ⟨a + (m + 3), _, [], by omega, by go_num, R1, R2, R3, R5, R6, R7, R4⟩
                    case measure => simp [intOf]; omega
                · rw [if_neg hz] at h1
                  have HER : Hid (R = Rs.no ge a) := h1
                  have hz2 : (ge == 0) = false := by simpa using hz
                  have hz3 : (ge != 0) = true := by simpa using hz
                  clear h1 HGE
                  obtain ⟨⟨k0, k1⟩, f0, f1⟩ := blk2 HG1.out
                  go_wp2_with (first | (go_at_call 26; refine WD.mono ?_; rintro e w' ⟨rfl, hw⟩; have hw2 := hw.symm; clear hw; subst hw2) | (go_at_call 25; first | (refine (G1 _).mono ?_; rintro e w' ⟨rfl, hw⟩; have hw2 := hw.symm; clear hw; subst hw2)) | (go_at_call 27; refine GC.mono ?_; rintro e w' ⟨rfl, hw⟩; have hw2 := hw.symm; clear hw; subst hw2))
                  all_goals
                    refine bodyPost_ret (results2 Try.results10 _ _ (.slice none 0 0) w.heap.size _ #[.int .i64 ge, .int .i64 a] _ _ rfl rfl (set2 HG1.out) Try.underlying28 rfl infoFault) rfl ⟨?_, ?_⟩
                    · rw [HER.out]; rfl
                    · exact ((HBA.out.trans (HBE.out.mono (by omega))).setCell (by simp) _).setCell (by simp) _

        · have hbad : mk (l.drop a) = .bad := by unfold mk; rw [hd0 0, hd0 1, Nat.add_zero, if_neg (by rw [h36e]; exact fun h => h rfl), if_neg h1, if_neg h123, if_neg (by rw [hd1]; decide)]
          have HER : Hid (R = Rs.no 220 a) := by
            have h9 := tm_meant l groups T a (qs.map Prod.snd ++ flush tx) hal (HNT.out h1)
            rw [HK.out, hbad] at h9
            exact h9
          clear hbad HK HNT hd0 hr1 hr2
          by_cases hca : cap = a + 1
          · have hnn : n = a + 1 := by omega
            subst hca
            subst hnn
            clear hcc hd1 h1 h123
            obtain ⟨⟨k0, k1⟩, f0, f1⟩ := blk2 HG1.out
            go_wp2_with (first | (go_at_call 27; refine (rgroup_none groups _ _).mono ?_; rintro e w' ⟨rfl, hw⟩; have hw2 := hw.symm; clear hw; subst hw2))
            all_goals
              refine bodyPost_ret (results2 Try.results10 _ _ (.slice none 0 0) w.heap.size _ #[.int .i64 220, .int .i64 a] _ _ rfl rfl (set2 HG1.out) Try.underlying28 rfl infoFault) rfl ⟨?_, ?_⟩
              · rw [HER.out]; rfl
              · exact ((HBA.out.trans (HBE.out.mono (by omega))).setCell (by simp) _).setCell (by simp) _

          by_cases hnn : n = a + 1
          · subst hnn
            clear hcc hd1 h1 h123
            obtain ⟨⟨k0, k1⟩, f0, f1⟩ := blk2 HG1.out
            go_wp2_with (first | (go_at_call 27; refine (rgroup_none groups _ _).mono ?_; rintro e w' ⟨rfl, hw⟩; have hw2 := hw.symm; clear hw; subst hw2))
            all_goals
              refine bodyPost_ret (results2 Try.results10 _ _ (.slice none 0 0) w.heap.size _ #[.int .i64 220, .int .i64 a] _ _ rfl rfl (set2 HG1.out) Try.underlying28 rfl infoFault) rfl ⟨?_, ?_⟩
              · rw [HER.out]; rfl
              · exact ((HBA.out.trans (HBE.out.mono (by omega))).setCell (by simp) _).setCell (by simp) _

          have hl1 : a + 1 < n := by omega
          have c1 := hcc (a + 1) hl1
          have q1 : (0 : Int) < ((n - (a + 1) : Nat) : Int) := by omega
          have q1c : (1 : Int) ≤ ((n - (a + 1) : Nat) : Int) := by omega
          have G1 := fun W => rdigit_any (l.getD (a + 1) 0) W
          simp only [hd1] at G1
          clear hcc hd1
          generalize l.getD (a + 1) 0 = x1 at *
          have hx1 : (x1 == 36) = false := by simpa using h1
          have hx2 : (x1 == 123) = false := by simpa using h123
          obtain ⟨⟨k0, k1⟩, f0, f1⟩ := blk2 HG1.out
          go_wp2_with (first | (go_at_call 27; refine (rgroup_none groups _ _).mono ?_; rintro e w' ⟨rfl, hw⟩; have hw2 := hw.symm; clear hw; subst hw2) | (go_at_call 25; first | (refine (G1 _).mono ?_; rintro e w' ⟨rfl, hw⟩; have hw2 := hw.symm; clear hw; subst hw2)))
          all_goals
            refine bodyPost_ret (results2 Try.results10 _ _ (.slice none 0 0) w.heap.size _ #[.int .i64 220, .int .i64 a] _ _ rfl rfl (set2 HG1.out) Try.underlying28 rfl infoFault) rfl ⟨?_, ?_⟩
            · rw [HER.out]; rfl
            · exact ((HBA.out.trans (HBE.out.mono (by omega))).setCell (by simp) _).setCell (by simp) _

    · obtain rfl : a = n := by omega
      have h9 := HK.out
      rw [tm_end l groups T _ a _ (by rw [hl.out]; exact Nat.le_refl _)] at h9
      have HN : Hid (R = .ok (qs.map Prod.snd ++ flush tx)) := h9.symm
      obtain ⟨ta, tn, tc, rfl⟩ : ∃ x m c, u9 = Value.slice x m c := by obtain ⟨x, c, e⟩ := own_slice HX.out; exact ⟨x, _, c, e⟩
      have set0 : ∀ {W : World} {e s m : Nat} {v : Value} {xs : List Value}, W.ownsRow W0.heap.size e s v m xs → ((W.setCell ⟨w.heap.size, 0, none⟩ (.int .i64 0)).setCell ⟨w.heap.size, 1, none⟩ (.int .i64 0)).ownsRow w.heap.size e s v m xs := by
        intro W e s m v xs h
        refine own_mono (B := W0.heap.size) (h.kept (row := some w.heap.size) ⟨rfl, rfl, rfl, by simp, fun k _ hk => ?_⟩ ?_) (by omega)
        · rw [heap_setCell_other _ _ _ _ (fun e0 => hk (by rw [e0])), heap_setCell_other _ _ _ _ (fun e0 => hk (by rw [e0]))]
        · cases hb : v.ownBlock with
          | none => exact .inl rfl
          | some k => exact .inr (fun e0 => by cases e0; have := (h.lt _ hb).1; omega)
      have HSET : Hid (∀ (W : World) (v : Value) (ps : List Qt), PsAt W W0.heap.size 71 v ps → PsAt ((W.setCell ⟨w.heap.size, 0, none⟩ (.int .i64 0)).setCell ⟨w.heap.size, 1, none⟩ (.int .i64 0)) w.heap.size 71 v ps) := fun W v ps h => ⟨set0 h.row, fun q hq => set0 (h.txt q hq), h.ap⟩
      have HG1 : Hid (wr.heap[w.heap.size]? = some (.cells #[.int .i64 0, .int .i64 0] 28 (0, 0))) := (HBE.out.block _ (by omega)).trans HG0.out
      clear h9 HK set0
      by_cases htx : tx = []
      · subst htx
        have htn : tn = 0 := by obtain ⟨x, c, e⟩ := own_slice HX.out; cases e; rfl
        subst htn
        obtain ⟨⟨k0, k1⟩, f0, f1⟩ := blk2 HG1.out
        have HPF := HSET.out wr u8 qs HP.out
        have HPF2 : Hid (PsAt ((wr.setCell ⟨w.heap.size, 0, none⟩ (.int .i64 0)).setCell ⟨w.heap.size, 1, none⟩ (.int .i64 0)) w.heap.size 71 u8 qs) := HPF
        clear HPF HSET HP HX HAP HLN HEN
        go_wp2
        refine bodyPost_ret (results2 Try.results10 _ _ u8 w.heap.size _ #[.int .i64 0, .int .i64 0] _ _ rfl rfl (set2 HG1.out) Try.underlying28 rfl infoFault) rfl ⟨?_, ?_⟩
        · rw [HN.out]; exact ⟨_, _, rfl, HPF2.out, by rw [show flush ([] : List Int) = [] from rfl, List.append_nil]⟩
        · exact ((HBA.out.trans (HBE.out.mono (by omega))).setCell (by simp) _).setCell (by simp) _
      · have hfl : flush tx = [(tx, -1)] := by unfold flush; rw [if_neg htx]
        have htn : tn = tx.length := by obtain ⟨x, c, e⟩ := own_slice HX.out; cases e; rfl
        have htp : 0 < tx.length := List.length_pos_iff.2 htx
        have htp2 : (0 : Int) < (tn : Int) := by omega
        have hq9 : qs.length ≤ 2 * a := HLN.out.2
        have HVB : Hid (∀ k, u8.ownBlock = some k → W0.heap.size ≤ k) := fun k e => (HP.out.row.lt k e).1
        have HFL : Hid (flush tx = [(tx, -1)]) := hfl
        clear htn htp htx hfl
        go_wp2_with (at_builtin; refine wpList_append_lies _ rfl _ _ 31 rfl W0.heap.size 71 i0 (.agg #[.slice none 0 0, .int .i64 0]) 2 32 Try.underlying31 hi hz0 hz1 hz2 rfl (by decide) _ qs.length _ rfl (HP.out.row.alloc _) ⟨wr.heap.size, 0, none⟩ 1 1 [.slice ta tn tc, .int .i64 (-1)] rfl rfl (rpart_new wr _ _) (by intro u hu; simp at hu; rcases hu with rfl | rfl <;> rfl) (by decide) (by unfold maxLen; omega) (by omega) (by simp; omega) (wr.heap.size + 1) (by simp) ?_)
        intro g4 c4 w4 hown4 hgrow4 hat4 hlt4
        have hXA : OB (wr.alloc (.cells #[.slice ta tn tc, .int .i64 (-1)] 71)) W0.heap.size (.slice ta tn tc) tx := HX.out.below ((Below.refl _ _).alloc (Nat.le_refl _) _)
        have HP4 : PsAt w4 W0.heap.size 71 (.slice (some ⟨g4, 0, none⟩) (qs.length + 1) c4) (qs ++ [(.slice ta tn tc, tx, -1)]) := (HP.out.alloc _).snoc (by decide) _ _ _ hown4 hgrow4 (World.ownsRow.kept hXA hgrow4 (own_apart hXA (HP.out.alloc _).row (by decide))) HAP.out
        have HB4 : Hid (Below W0.heap.size W0 w4) := Below.grown (HBE.out.alloc hsz _) hgrow4 (by simp; omega) HVB.out
        have HG4 : Hid (w4.heap[w.heap.size]? = some (.cells #[.int .i64 0, .int .i64 0] 28 (0, 0))) := (HB4.out.block _ (by omega)).trans HG0.out
        obtain ⟨⟨k0, k1⟩, f0, f1⟩ := blk2 HG4.out
        have HPF2 : Hid (PsAt ((w4.setCell ⟨w.heap.size, 0, none⟩ (.int .i64 0)).setCell ⟨w.heap.size, 1, none⟩ (.int .i64 0)) w.heap.size 71 (.slice (some ⟨g4, 0, none⟩) (qs.length + 1) c4) (qs ++ [(.slice ta tn tc, tx, -1)])) := HSET.out _ _ _ HP4
        clear hown4 hgrow4 hat4 hlt4 hXA HP4 HP HX HAP HLN HEN HSET HG1 HBE
        go_wp2
        refine bodyPost_ret (results2 Try.results10 _ _ (.slice (some ⟨g4, 0, none⟩) (qs.length + 1) c4) w.heap.size _ #[.int .i64 0, .int .i64 0] _ _ rfl rfl (set2 HG4.out) Try.underlying28 rfl infoFault) rfl ⟨?_, ?_⟩
        · rw [HN.out, HFL.out]; exact ⟨_, _, rfl, HPF2.out, by rw [List.map_append]; rfl⟩
        · exact ((HBA.out.trans (HB4.out.mono (by omega))).setCell (by simp) _).setCell (by simp) _
end Go.Proofs.Ytfnndnlhdfjggaa.edt
