/- What edit.Template answers: a template's parts, or the fault. -/
import Derived.Test.YtfnndnlhdfjggaaEdtTm
import Derived.Test.YtfnndnlhdfjggaaEdtMark2
import Derived.Laws.Rows
set_option linter.unusedVariables false
set_option linter.unusedSimpArgs false
namespace Go.Proofs.Ytfnndnlhdfjggaa.edt
open Go.RowKit

theorem results2 {P : Program} {fn : Func} {p q : Tmp} {ty : TypeId} (h : fn.results = #[.tmp p, .cell q ty]) (tmps : Array Value) (w : World) (v : Value) (g : Nat) (t : TypeId) (cs : Array Value) (fr : Nat × Nat) (d : TypeDesc)
    (hv : tmps.getD p undef = v) (hp : tmps.getD q undef = .pointer (some ⟨g, 0, none⟩)) (hg : w.heap[g]? = some (.cells cs t fr))
    (hu : P.underlying ty = some d) (hd : (match d with | .struct _ | .array _ _ => true | _ => false) = true) (hi : (P.info? ty).map (·.size) = some cs.size) :
    (results fn tmps).run P w = .ok (.tuple #[v, .agg cs]) w := by
  have hp' : tmps[q]?.getD undef = .pointer (some ⟨g, 0, none⟩) := by simpa using hp
  have hv' : tmps[p]?.getD undef = v := by simpa using hv
  simp [results, h, hp', hv', asAddr, run_loadVar_row w g t ty cs fr d hg hu hd hi]
theorem infoFault : (Try.prog.info? 28).map (·.size) = some 2 := by kernel_rfl
theorem blk2 {w : World} {g : Nat} {x y : Value} {t : TypeId} (h : w.heap[g]? = some (.cells #[x, y] t (0, 0))) :
    (w.cell? ⟨g, 0, none⟩ = some x ∧ w.cell? ⟨g, 1, none⟩ = some y) ∧ (w.frozen? ⟨g, 0, none⟩ = false ∧ w.frozen? ⟨g, 1, none⟩ = false) := by
  simp [World.cell?, World.frozen?, h]
theorem set2 {w : World} {g : Nat} {x y x' y' : Value} {t : TypeId} (h : w.heap[g]? = some (.cells #[x, y] t (0, 0))) : ((w.setCell ⟨g, 0, none⟩ x').setCell ⟨g, 1, none⟩ y').heap[g]? = some (.cells #[x', y'] t (0, 0)) :=
  heap_setCell_same _ g 1 _ _ _ (heap_setCell_same w g 0 _ _ _ h)
theorem PsAt.mono {w : World} {B B' : Nat} {e : TypeId} {v : Value} {qs : List Qt} (h : PsAt w B e v qs) (hB : B' ≤ B) : PsAt w B' e v qs := ⟨own_mono h.row hB, fun q hq => (h.txt q hq).mono hB, h.ap⟩
/-- A template's parts, or the fault, as values. -/
def RsV (w : World) (B : Nat) : Rs → Ending → Prop
  | .ok ps, e => ∃ v qs, e = .returned (.tuple #[v, .agg #[.int .i64 0, .int .i64 0]]) ∧ PsAt w B 37 v qs ∧ qs.map Prod.snd = ps
  | .no c a, e => e = .returned (.tuple #[.slice none 0 0, .agg #[.int .i64 c, .int .i64 a]])

set_option maxHeartbeats 4000000 in
theorem tmpl_any (ao : Option Addr) (n cap : Nat) (l : List Int) (groups : Int) (aT : Option Addr) (nT cT : Nat) (T : List ByteArray) (w : World) (hB : BS w ao n cap l) (hT : TS w aT nT cT T) (hn : n ≤ 1048576) :
    Calls Try.prog 9 #[.slice ao n cap, .int .i64 groups, .slice aT nT cT] w fun e w' => RsV w' w.heap.size (tm l groups T (n + 1) 0 []) e ∧ Below w.heap.size w w' := by
  obtain ⟨i0, hi, hz0, hz1, hz2⟩ := info_parts infoPart
  have hnc := hB.nc
  have hcm := hB.cm
  have hl : Hid (l.length = n) := hB.len
  have ba := fun o => (Below.refl w.heap.size w).alloc (Nat.le_refl _) o
  have HB0 : Hid (BS (w.alloc (.cells #[.int .i64 0, .int .i64 0] 28)) ao n cap l) := hB.below (ba _)
  have HT0 : Hid (TS (w.alloc (.cells #[.int .i64 0, .int .i64 0] 28)) aT nT cT T) := hT.below (ba _)
  have HBA : Hid (Below w.heap.size w (w.alloc (.cells #[.int .i64 0, .int .i64 0] 28))) := ba _
  have HG0 : Hid ((w.alloc (.cells #[.int .i64 0, .int .i64 0] 28)).heap[w.heap.size]? = some (.cells #[.int .i64 0, .int .i64 0] 28 (0, 0))) := heap_alloc_new w _
  obtain ⟨W0, hW0⟩ : ∃ W0, w.alloc (.cells #[.int .i64 0, .int .i64 0] 28) = W0 := ⟨_, rfl⟩
  have hs0 : W0.heap.size = w.heap.size + 1 := by rw [← hW0]; simp
  rw [hW0] at HB0 HT0 HG0 HBA
  obtain ⟨R, hR⟩ : ∃ R, tm l groups T (n + 1) 0 [] = R := ⟨_, rfl⟩
  rw [hR]
  have HR : Hid (tm l groups T (n + 1) 0 [] = R) := hR
  clear hB hT ba hR
  go_enter Try.func9, Try.ntmps9
  go_wp2
  clear hW0
  go_loopw [8, 9] (fun v i wr => ∃ (a : Nat) (qs : List Qt), a ≤ n ∧ i = .int .i64 a ∧ Hid (PsAt wr W0.heap.size 37 v qs) ∧ Hid (Few a (qs.map Prod.snd)) ∧ Hid (tm l groups T (l.length - a + 1) a (qs.map Prod.snd) = R) ∧ Hid (Below W0.heap.size W0 wr)) (fun _ i _ => n - (intOf i).toNat)
  case atStart => exact ⟨0, [], Nat.zero_le _, rfl, PsAt.nil _ _ _, ⟨by simp, fun p hp => by simp at hp⟩, by show tm l groups T (l.length - 0 + 1) 0 [] = R; rw [hl.out, Nat.sub_zero]; exact HR.out, Below.refl _ _⟩
  case round =>
    clear HR
    obtain ⟨a, qs, ha, rfl, HP, HF, HK, HBE⟩ := hrel
    have hsz := HBE.out.size
    by_cases hlt : a < n
    · obtain ⟨b, off, rfl, _⟩ := HB0.out.at_ (by omega)
      have hca : ¬ cap = a := by omega
      have hBs : BS W0 (some ⟨b, off + a, none⟩) (n - a) (cap - a) (l.drop a) := by
        have := HB0.out.sub a n (by omega) (Nat.le_refl _)
        rw [if_neg hca, List.take_of_length_le (by rw [List.length_drop, hl.out]; omega), show Option.map (fun x : Addr => x.add a) (some ⟨b, off, none⟩) = some ⟨b, off + a, none⟩ from by simp [Addr.add]] at this
        exact this
      have MC := mark_any (some ⟨b, off + a, none⟩) (n - a) (cap - a) (l.drop a) W0 wr hBs (hBs.below HBE.out) (by omega)
      have hms := mk_size (l.drop a) (by rw [List.length_drop, hl.out]; omega)
      rw [List.length_drop, hl.out] at hms
      have HN := tm_next l groups T a (qs.map Prod.snd) (by rw [hl.out]; exact hlt)
      rw [HK.out] at HN
      clear hBs HK
      generalize mk (l.drop a) = M at *
      go_wp2_with fail
      refine MC.mono ?_
      rintro e w1 ⟨mv, rfl, hmv, hb1⟩
      have hsz1 := hb1.size
      have HBE1 : Hid (Below W0.heap.size W0 w1) := HBE.out.trans (hb1.mono hsz)
      have HP1 : Hid (PsAt w1 W0.heap.size 37 u8 qs) := HP.out.below hb1
      have HG1 : Hid (w1.heap[w.heap.size]? = some (.cells #[.int .i64 0, .int .i64 0] 28 (0, 0))) := (HBE1.out.block _ (by omega)).trans HG0.out
      have FK := fun o => blk2 (w := w1.alloc o) (g := w.heap.size) ((Below.heap_alloc w1 o _ (Array.getElem?_eq_some_iff.1 HG1.out).1).trans HG1.out)
      clear MC hb1 HP HBE
      cases M with
      | bad =>
        obtain ⟨x, y, z, k, rfl⟩ := hmv
        simp only at HN
        have k0 := fun o => (FK o).1.1
        have k1 := fun o => (FK o).1.2
        have f0 := fun o => (FK o).2.1
        have f1 := fun o => (FK o).2.2
        have HN2 : Hid (R = Rs.no 220 a) := HN
        clear FK HN hms
        go_wp2
        refine bodyPost_ret (results2 Try.results9 _ _ (.slice none 0 0) w.heap.size _ #[.int .i64 220, .int .i64 a] _ _ rfl rfl (set2 ((Below.heap_alloc w1 _ _ (Array.getElem?_eq_some_iff.1 HG1.out).1).trans HG1.out)) Try.underlying28 rfl infoFault) rfl ⟨?_, ?_⟩
        · rw [HN2.out]; rfl
        · have hb := HBA.out.trans (HBE1.out.mono (by omega))
          (repeat' first | exact hb | refine Below.setCell ?_ (by simp) _ | refine Below.alloc ?_ (by omega) _)
      | txt c s =>
        obtain ⟨xa, xc, rfl, hxB⟩ := hmv
        simp only at HN
        simp only [Mk.size] at hms
        have HN2 : Hid (tm l groups T (l.length - (a + s) + 1) (a + s) (addT (qs.map Prod.snd) [c]) = R) := HN.symm
        have AD : Hid (∀ o, Calls Try.prog 23 #[u8, .slice xa 1 xc] (w1.alloc o) fun e w' => ∃ v' qs', e = .returned v' ∧ PsAt w' W0.heap.size 37 v' qs' ∧ qs'.map Prod.snd = addT (qs.map Prod.snd) [c] ∧ Below W0.heap.size (w1.alloc o) w' ∧ Fr (w1.alloc o) w') := by
          intro o
          have hs1 : W0.heap.size ≤ w1.heap.size := by omega
          refine add_any W0.heap.size u8 qs xa 1 xc [c] (w1.alloc o) (HP1.out.alloc o) (fun w' hb => hxB.below ((HBE1.out.alloc hs1 o).trans hb)) (by simp; omega) (by omega) ?_ ?_
          · have := HF.out.1; rw [List.length_map] at this; omega
          · intro q hq
            have := HF.out.2 q.2 (List.mem_map.2 ⟨q, hq, rfl⟩); omega
        clear FK HN hxB HP1
        go_wp2_with fail
        refine (AD.out _).mono ?_
        rintro e w3 ⟨v', qs', rfl, hP3, hq3, hb3, hf3⟩
        have hm3 := hf3 w1.heap.size _ _ _ (heap_alloc_new w1 _) (by decide) (by decide)
        have km : w3.cell? ⟨w1.heap.size, 2, none⟩ = some (.int .i64 s) := by simp [World.cell?, hm3]
        have R1 : Hid (PsAt w3 W0.heap.size 37 v' qs') := hP3
        have R2 : Hid (Below W0.heap.size W0 w3) := (HBE1.out.alloc (by omega) _).trans hb3
        have R3 : Hid (Few (a + s) (qs'.map Prod.snd)) := by rw [hq3]; exact (HF.out.addT c).mono (by omega)
        have R4 : Hid (tm l groups T (l.length - (a + s) + 1) (a + s) (qs'.map Prod.snd) = R) := by rw [hq3]; exact HN2.out
        clear AD hP3 hq3 hb3 hf3 hm3 HN2 HF
        go_wp2
        go_roundw
        case rel => exact ⟨a + s, qs', by omega, by go_num, R1, R3, R4, R2⟩
        case measure => simp [intOf]; omega
      | num d s =>
        obtain ⟨xa, xc, rfl, hxB, h3, hd⟩ := hmv
        simp only at HN
        simp only [Mk.size] at hms
        have GR : Hid (∀ o, Calls Try.prog 24 #[.agg #[.int .i64 2, .slice xa d.length xc, .int .i64 s], .int .i64 groups, .slice aT nT cT] (w1.alloc o) fun e w' => e = .returned (.tuple #[.int .i64 (val d), .bool (decide (val d ≤ groups))]) ∧ Below (w1.alloc o).heap.size (w1.alloc o) w') := fun o => group_num xa xc d s groups _ (w1.alloc o) (hxB.below (HBE1.out.alloc (by omega) o)) h3 hd
        clear FK hxB hd h3
        generalize d.length = N at *
        generalize val d = V at *
        by_cases hv : V ≤ groups
        · have hv2 : decide (V ≤ groups) = true := decide_eq_true hv
          rw [if_pos hv] at HN
          have HN2 : Hid (tm l groups T (l.length - (a + s) + 1) (a + s) (qs.map Prod.snd ++ [([], V)]) = R) := HN.symm
          simp only [hv2] at GR
          clear HN
          go_wp2_with fail
          refine (GR.out _).mono ?_
          rintro e w3 ⟨rfl, hb3⟩
          have hsz3 := hb3.size
          simp only [World.size_alloc] at hsz3
          have km0 : ∀ o, (w3.alloc o).cell? ⟨w1.heap.size, 2, none⟩ = some (.int .i64 s) := fun o => by
            have hm3 := (hb3.block w1.heap.size (by simp)).trans (heap_alloc_new w1 _)
            simp [World.cell?, Below.heap_alloc w3 o w1.heap.size (by omega), hm3]
          have HP3 : Hid (PsAt w3 W0.heap.size 37 u8 qs) := (HP1.out.alloc _).below hb3
          have HBE3 : Hid (Below W0.heap.size W0 w3) := (HBE1.out.alloc (by omega) _).trans (hb3.mono (by simp; omega))
          have HVB : Hid (∀ k, u8.ownBlock = some k → W0.heap.size ≤ k) := fun k e => (HP3.out.row.lt k e).1
          have HVN : Hid (some w1.heap.size ≠ u8.ownBlock) := fun e => by have := (HP1.out.row.lt _ e.symm).2; omega
          have hq9 : qs.length ≤ n := by have := HF.out.1; rw [List.length_map] at this; omega
          clear GR hb3 HP1 HBE1
          go_wp2_with (at_builtin; refine wpList_append_lies _ rfl _ _ 25 rfl W0.heap.size 37 i0 (.agg #[.slice none 0 0, .int .i64 0]) 2 32 Try.underlying25 hi hz0 hz1 hz2 rfl (by decide) _ qs.length _ rfl (HP3.out.row.alloc _) ⟨w3.heap.size, 0, none⟩ 1 1 [.slice none 0 0, .int .i64 V] rfl rfl ?cA1 ?cA2 (by decide) ?cA3 ?cA4 ?cA5 (w3.heap.size + 1) ?cA6 ?_)
          case cA1 => exact two_new w3 _ _
          case cA2 => intro u hu; simp at hu; rcases hu with rfl | rfl <;> rfl
          case cA3 => unfold maxLen; omega
          case cA4 => omega
          case cA5 => simp; omega
          case cA6 => simp
          intro g c1 w5 hown hgrow hat hlt5
          have km : w5.cell? ⟨w1.heap.size, 2, none⟩ = some (.int .i64 s) := hgrow.cell (km0 _) HVN.out
          have R1 : Hid (PsAt w5 W0.heap.size 37 (.slice (some ⟨g, 0, none⟩) (qs.length + 1) c1) (qs ++ [(.slice none 0 0, [], V)])) := (HP3.out.alloc _).snoc (by decide) _ _ _ (by rw [hs0]; exact hown) hgrow (OB.nil _ _) (fun q hq g hg e => by cases e)
          have R2 : Hid (Below W0.heap.size W0 w5) := Below.grown (HBE3.out.alloc (by omega) _) hgrow (by simp; omega) HVB.out
          have R3 : Hid (Few (a + s) ((qs ++ [((.slice none 0 0 : Value), ([] : List Int), V)]).map Prod.snd)) := by rw [List.map_append]; exact (HF.out.snoc V).mono (by omega)
          have R4 : Hid (tm l groups T (l.length - (a + s) + 1) (a + s) ((qs ++ [((.slice none 0 0 : Value), ([] : List Int), V)]).map Prod.snd) = R) := by rw [List.map_append]; exact HN2.out
          clear hown hgrow hat hlt5 HN2 HF HP3 HBE3 km0
          go_wp2
          go_roundw
          case rel => exact ⟨a + s, _, by omega, by go_num, R1, R3, R4, R2⟩
          case measure => simp [intOf]; omega
        · have hv2 : decide (V ≤ groups) = false := decide_eq_false hv
          rw [if_neg hv] at HN
          have HN2 : Hid (R = Rs.no 151 a) := HN
          simp only [hv2] at GR
          clear HN
          go_wp2_with fail
          refine (GR.out _).mono ?_
          rintro e w3 ⟨rfl, hb3⟩
          have hsz3 := hb3.size
          simp only [World.size_alloc] at hsz3
          have HG3 : Hid (w3.heap[w.heap.size]? = some (.cells #[.int .i64 0, .int .i64 0] 28 (0, 0))) := (hb3.block w.heap.size (by simp; omega)).trans ((Below.heap_alloc w1 _ _ (Array.getElem?_eq_some_iff.1 HG1.out).1).trans HG1.out)
          obtain ⟨⟨k0, k1⟩, f0, f1⟩ := blk2 HG3.out
          have HBE3 : Hid (Below W0.heap.size W0 w3) := (HBE1.out.alloc (by omega) _).trans (hb3.mono (by simp; omega))
          clear GR hb3
          go_wp2
          refine bodyPost_ret (results2 Try.results9 _ _ (.slice none 0 0) w.heap.size _ #[.int .i64 151, .int .i64 a] _ _ rfl rfl (set2 HG3.out) Try.underlying28 rfl infoFault) rfl ⟨?_, ?_⟩
          · rw [HN2.out]; rfl
          · exact ((HBA.out.trans (HBE3.out.mono (by omega))).setCell (by simp) _).setCell (by simp) _
      | nam d s =>
        obtain ⟨xa, xc, rfl, hxB⟩ := hmv
        simp only at HN
        simp only [Mk.size] at hms
        have GR : Hid (∀ o, Calls Try.prog 24 #[.agg #[.int .i64 3, .slice xa d.length xc, .int .i64 s], .int .i64 groups, .slice aT nT cT] (w1.alloc o) fun e w' => e = .returned (.tuple #[.int .i64 (sx (strOfNums d) (T.drop 1) + 1), .bool (decide (0 ≤ sx (strOfNums d) (T.drop 1)))]) ∧ Below (w1.alloc o).heap.size (w1.alloc o) w') := fun o => group_nam xa xc d s groups aT nT cT T (w1.alloc o) (hxB.below (HBE1.out.alloc (by omega) o)) (HT0.out.below (HBE1.out.alloc (by omega) o))
        clear FK hxB
        generalize d.length = N at *
        generalize sx (strOfNums d) (T.drop 1) = X at *
        generalize X + 1 = V at *
        by_cases hv : 0 ≤ X
        · have hv2 : decide (0 ≤ X) = true := decide_eq_true hv
          rw [if_pos hv] at HN
          have HN2 : Hid (tm l groups T (l.length - (a + s) + 1) (a + s) (qs.map Prod.snd ++ [([], V)]) = R) := HN.symm
          simp only [hv2] at GR
          clear HN
          go_wp2_with fail
          refine (GR.out _).mono ?_
          rintro e w3 ⟨rfl, hb3⟩
          have hsz3 := hb3.size
          simp only [World.size_alloc] at hsz3
          have km0 : ∀ o, (w3.alloc o).cell? ⟨w1.heap.size, 2, none⟩ = some (.int .i64 s) := fun o => by
            have hm3 := (hb3.block w1.heap.size (by simp)).trans (heap_alloc_new w1 _)
            simp [World.cell?, Below.heap_alloc w3 o w1.heap.size (by omega), hm3]
          have HP3 : Hid (PsAt w3 W0.heap.size 37 u8 qs) := (HP1.out.alloc _).below hb3
          have HBE3 : Hid (Below W0.heap.size W0 w3) := (HBE1.out.alloc (by omega) _).trans (hb3.mono (by simp; omega))
          have HVB : Hid (∀ k, u8.ownBlock = some k → W0.heap.size ≤ k) := fun k e => (HP3.out.row.lt k e).1
          have HVN : Hid (some w1.heap.size ≠ u8.ownBlock) := fun e => by have := (HP1.out.row.lt _ e.symm).2; omega
          have hq9 : qs.length ≤ n := by have := HF.out.1; rw [List.length_map] at this; omega
          clear GR hb3 HP1 HBE1
          go_wp2_with (at_builtin; refine wpList_append_lies _ rfl _ _ 25 rfl W0.heap.size 37 i0 (.agg #[.slice none 0 0, .int .i64 0]) 2 32 Try.underlying25 hi hz0 hz1 hz2 rfl (by decide) _ qs.length _ rfl (HP3.out.row.alloc _) ⟨w3.heap.size, 0, none⟩ 1 1 [.slice none 0 0, .int .i64 V] rfl rfl ?cB1 ?cB2 (by decide) ?cB3 ?cB4 ?cB5 (w3.heap.size + 1) ?cB6 ?_)
          case cB1 => exact two_new w3 _ _
          case cB2 => intro u hu; simp at hu; rcases hu with rfl | rfl <;> rfl
          case cB3 => unfold maxLen; omega
          case cB4 => omega
          case cB5 => simp; omega
          case cB6 => simp
          intro g c1 w5 hown hgrow hat hlt5
          have km : w5.cell? ⟨w1.heap.size, 2, none⟩ = some (.int .i64 s) := hgrow.cell (km0 _) HVN.out
          have R1 : Hid (PsAt w5 W0.heap.size 37 (.slice (some ⟨g, 0, none⟩) (qs.length + 1) c1) (qs ++ [(.slice none 0 0, [], V)])) := (HP3.out.alloc _).snoc (by decide) _ _ _ (by rw [hs0]; exact hown) hgrow (OB.nil _ _) (fun q hq g hg e => by cases e)
          have R2 : Hid (Below W0.heap.size W0 w5) := Below.grown (HBE3.out.alloc (by omega) _) hgrow (by simp; omega) HVB.out
          have R3 : Hid (Few (a + s) ((qs ++ [((.slice none 0 0 : Value), ([] : List Int), V)]).map Prod.snd)) := by rw [List.map_append]; exact (HF.out.snoc V).mono (by omega)
          have R4 : Hid (tm l groups T (l.length - (a + s) + 1) (a + s) ((qs ++ [((.slice none 0 0 : Value), ([] : List Int), V)]).map Prod.snd) = R) := by rw [List.map_append]; exact HN2.out
          clear hown hgrow hat hlt5 HN2 HF HP3 HBE3 km0
          go_wp2
          go_roundw
          case rel => exact ⟨a + s, _, by omega, by go_num, R1, R3, R4, R2⟩
          case measure => simp [intOf]; omega
        · have hv2 : decide (0 ≤ X) = false := decide_eq_false hv
          rw [if_neg hv] at HN
          have HN2 : Hid (R = Rs.no 151 a) := HN
          simp only [hv2] at GR
          clear HN
          go_wp2_with fail
          refine (GR.out _).mono ?_
          rintro e w3 ⟨rfl, hb3⟩
          have hsz3 := hb3.size
          simp only [World.size_alloc] at hsz3
          have HG3 : Hid (w3.heap[w.heap.size]? = some (.cells #[.int .i64 0, .int .i64 0] 28 (0, 0))) := (hb3.block w.heap.size (by simp; omega)).trans ((Below.heap_alloc w1 _ _ (Array.getElem?_eq_some_iff.1 HG1.out).1).trans HG1.out)
          obtain ⟨⟨k0, k1⟩, f0, f1⟩ := blk2 HG3.out
          have HBE3 : Hid (Below W0.heap.size W0 w3) := (HBE1.out.alloc (by omega) _).trans (hb3.mono (by simp; omega))
          clear GR hb3
          go_wp2
          refine bodyPost_ret (results2 Try.results9 _ _ (.slice none 0 0) w.heap.size _ #[.int .i64 151, .int .i64 a] _ _ rfl rfl (set2 HG3.out) Try.underlying28 rfl infoFault) rfl ⟨?_, ?_⟩
          · rw [HN2.out]; rfl
          · exact ((HBA.out.trans (HBE3.out.mono (by omega))).setCell (by simp) _).setCell (by simp) _
    · obtain rfl : a = n := by omega
      have HN : Hid (R = .ok (qs.map Prod.snd)) := by
        show R = _
        rw [← HK.out, tm_end l groups T _ a _ (by rw [hl.out]; exact Nat.le_refl _)]
      obtain ⟨⟨k0, k1⟩, f0, f1⟩ := blk2 ((HBE.out.block w.heap.size (by omega)).trans HG0.out)
      have HG1 : Hid (wr.heap[w.heap.size]? = some (.cells #[.int .i64 0, .int .i64 0] 28 (0, 0))) := (HBE.out.block _ (by omega)).trans HG0.out
      have HPF : Hid (PsAt ((wr.setCell ⟨w.heap.size, 0, none⟩ (.int .i64 0)).setCell ⟨w.heap.size, 1, none⟩ (.int .i64 0)) w.heap.size 37 u8 qs) := by
        have h1 : ∀ {e s m : Nat} {v : Value} {xs : List Value}, wr.ownsRow W0.heap.size e s v m xs → ((wr.setCell ⟨w.heap.size, 0, none⟩ (.int .i64 0)).setCell ⟨w.heap.size, 1, none⟩ (.int .i64 0)).ownsRow w.heap.size e s v m xs := by
          intro e s m v xs h
          refine own_mono (B := W0.heap.size) (h.kept (row := some w.heap.size) ⟨rfl, rfl, rfl, by simp, fun k _ hk => ?_⟩ ?_) (by omega)
          · rw [heap_setCell_other _ _ _ _ (fun e0 => hk (by rw [e0])), heap_setCell_other _ _ _ _ (fun e0 => hk (by rw [e0]))]
          · cases hb : v.ownBlock with
            | none => exact .inl rfl
            | some k => exact .inr (fun e0 => by cases e0; have := (h.lt _ hb).1; omega)
        exact ⟨h1 HP.out.row, fun q hq => h1 (HP.out.txt q hq), HP.out.ap⟩
      have HBF : Hid (Below w.heap.size w ((wr.setCell ⟨w.heap.size, 0, none⟩ (.int .i64 0)).setCell ⟨w.heap.size, 1, none⟩ (.int .i64 0))) := ((HBA.out.trans (HBE.out.mono (by omega))).setCell (by simp) _).setCell (by simp) _
      clear HK HP HF
      go_wp2
      refine bodyPost_ret (results2 Try.results9 _ _ u8 w.heap.size _ #[.int .i64 0, .int .i64 0] _ _ rfl rfl (set2 HG1.out) Try.underlying28 rfl infoFault) rfl ⟨?_, HBF.out⟩
      rw [HN.out]
      exact ⟨_, _, rfl, HPF.out, rfl⟩
end Go.Proofs.Ytfnndnlhdfjggaa.edt
