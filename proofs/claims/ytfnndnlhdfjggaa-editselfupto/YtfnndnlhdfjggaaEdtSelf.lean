/- The walk of EditSelf. -/
import Derived.Test.YtfnndnlhdfjggaaEdtJoin
import Derived.Test.YtfnndnlhdfjggaaEdtLaws
import Derived.Deep.RegionWith
set_option linter.unusedVariables false
set_option linter.unusedSimpArgs false
namespace Go.Proofs.Ytfnndnlhdfjggaa.edt
open Go.RowKit

theorem self_tm : tm [36, 48] 0 [] 3 0 [] = .ok [([], 0)] := by kernel_rfl
theorem psat_p1 {w : World} {B : Nat} {e : TypeId} {v : Value} {qs : List Qt} {t : List Int} {A : Int} (h : PsAt w B e v qs) (hq : qs.map Prod.snd = [(t, A)]) : ∃ gp cp xa xn xc, v = .slice (some ⟨gp, 0, none⟩) 1 cp ∧ P1 w gp (.slice xa xn xc) A := by
  have hql : qs.length = 1 := by have := congrArg List.length hq; simpa using this
  obtain ⟨q, rfl⟩ : ∃ q, qs = [q] := List.length_eq_one_iff.1 hql
  have hrow := h.row
  obtain ⟨g, vc, rfl, _, hg⟩ := hrow.form (by simp)
  obtain ⟨xa, xc, hx⟩ := own_slice (h.txt q (by simp))
  obtain ⟨c1, c2⟩ := flatP_get [q] 0 q rfl
  have e2 : q.2 = (t, A) := by simpa using hq
  rw [e2] at c2
  refine ⟨g, vc, xa, q.2.1.length, xc, rfl, ⟨?_, ?_⟩⟩
  · have := (hrow.cellAt 0 (by simp)).trans c1
    rw [hx] at this
    exact this
  · exact (hrow.cellAt 1 (by simp)).trans c2
theorem replL_byt (b t : List Int) (hb : Byt b) (ht : Byt t) : ∀ (l : List Sp) (e : Nat), Byt (replL b (fun _ _ => t) e l)
  | [], e => fun x hx => hb x (List.mem_of_mem_drop hx)
  | p :: r, e => fun x hx => by
    rw [replL] at hx
    rcases List.mem_append.1 hx with hx | hx
    · rcases List.mem_append.1 hx with hx | hx
      · exact hb x (List.mem_of_mem_drop (List.mem_of_mem_take hx))
      · exact ht x hx
    · exact replL_byt b t hb ht r _ x hx
theorem part_one (w : World) (x : Value) (A : Int) : P1 (w.alloc (.cells #[x, .int .i64 A] 37)) w.heap.size x A := by
  constructor <;> simp
theorem fault_at {w : World} {g : Nat} {c a : Int} (h : w.heap[g]? = some (.cells #[.int .i64 c, .int .i64 a] 28 (0, 0))) : w.cell? ⟨g, 0, none⟩ = some (.int .i64 c) ∧ w.cell? ⟨g, 1, none⟩ = some (.int .i64 a) := by
  constructor <;> simp [World.cell?, h]

set_option maxHeartbeats 4000000 in
set_option maxRecDepth 100000 in
theorem self_no (ao : Option Addr) (n cap : Nat) (b : List Int) (aS : Option Addr) (nS cS : Nat) (l : List Sp) (aX : Option Addr) (nX cX : Nat) (t : List Int) (w : World) (hB : BS w ao n cap b) (hS : SS w aS nS cS l) (hX : BS w aX nX cX t) (h : apB n 0 l = false) (hn : n ≤ 1048576) (hnS : nS ≤ 1048576) (hnX : nX ≤ 1048576) :
    Calls Try.prog 7 #[.slice ao n cap, .slice aS nS cS, .slice aX nX cX] w fun e w' => e = .returned (.bool true) ∧ Below w.heap.size w w' := by
  obtain ⟨i1, hj, hy0, hy1, hy2⟩ := info_parts infoFound
  have hnc := hB.nc
  have hcm := hB.cm
  have hSn := hS.nc
  have hSm := hS.cm
  have hXn := hX.nc
  have hXm := hX.cm
  have HB : Hid (BS w ao n cap b) := hB
  have HX : Hid (BS w aX nX cX t) := hX
  have HS : Hid (SS w aS nS cS l) := hS
  have HA : Hid (apB n 0 l = false) := h
  clear hB hS h hX
  go_enter Try.func7, Try.ntmps7
  go_wp2
  go_loopw [7, 20] (fun v i wr => ∃ (k : Nat) (gs : List Nat), k ≤ nS ∧ i = .int .i64 k ∧ Hid (gs.length = k) ∧ Hid (FO wr w.heap.size v gs (l.take k)) ∧ Hid (Below w.heap.size w wr)) (fun _ i _ => nS - (intOf i).toNat)
  case atStart => exact ⟨0, [], Nat.zero_le _, rfl, rfl, by rw [List.take_zero]; exact FO.nil _ _, Below.refl _ _⟩
  case round =>
    obtain ⟨k, gs, hk, rfl, HGL, HR, HBE⟩ := hrel
    have hsz := HBE.out.size
    have hgl : gs.length ≤ nS := by rw [HGL.out]; exact hk
    by_cases hlt : k < nS
    · obtain ⟨bb, off, rfl, hc⟩ := (HS.out.below HBE.out).at_ (by omega)
      obtain ⟨c0, c1⟩ := hc k hlt
      have HTK : Hid (l.take (k + 1) = l.take k ++ [l.getD k (0, 0)]) := take_snoc l k (0, 0) (by rw [HS.out.len]; exact hlt)
      clear hc
      generalize l.getD k (0, 0) = p at *
      obtain ⟨x, y⟩ := p
      simp only at c0 c1
      have HVB : Hid (∀ k, u7.ownBlock = some k → w.heap.size ≤ k) := fun k e => (HR.out.row.lt k e).1
      go_wp2_with (at_builtin; refine wpList_append_lies _ rfl _ _ 41 rfl w.heap.size 56 i1 (.agg #[.slice none 0 0]) 1 24 Try.underlying41 hj hy0 hy1 hy2 rfl (by decide) _ gs.length _ rfl (((HR.out.alloc _).alloc _).alloc _).row ⟨wr.heap.size + 1 + 1, 0, none⟩ 1 1 [.slice (some ⟨wr.heap.size + 1, 0, none⟩) 1 1] rfl rfl ?f1 ?f2 (by decide) ?f3 ?f4 ?f5 (wr.heap.size + 3) ?f6 ?_)
      case f1 => have := found_new ((wr.alloc (.cells #[.int .i64 x, .int .i64 y] 54)).alloc (.cells #[.int .i64 x, .int .i64 y] 54)) (.slice (some ⟨wr.heap.size + 1, 0, none⟩) 1 1); simpa using this
      case f2 => intro u hu; simp at hu; subst hu; rfl
      case f3 => unfold maxLen; omega
      case f4 => omega
      case f5 => simp; omega
      case f6 => simp
      intro g c5 w5 hown hgrow hat hlt5
      have R1 : Hid (FO w5 w.heap.size (.slice (some ⟨g, 0, none⟩) (gs.length + 1) c5) (gs ++ [wr.heap.size + 1]) (l.take (k + 1))) := by
        rw [HTK.out]
        refine (((HR.out.alloc _).alloc _).alloc _).snoc _ x y ?_ hown hgrow
        rw [Below.heap_alloc _ _ _ (by simp)]
        have := heap_alloc_new (wr.alloc (.cells #[.int .i64 x, .int .i64 y] 54)) (.cells #[.int .i64 x, .int .i64 y] 54)
        simpa using this
      have R2 : Hid (Below w.heap.size w w5) := Below.grown (((HBE.out.alloc hsz _).alloc (by simp; omega) _).alloc (by simp; omega) _) hgrow (by simp; omega) HVB.out
      clear hown hgrow hat hlt5 HR HBE HTK
      go_wp2
      go_roundw
      case rel => exact ⟨k + 1, gs ++ [wr.heap.size + 1], by omega, by go_num, by show (gs ++ [_]).length = k + 1; rw [List.length_append, HGL.out]; rfl, R1, R2⟩
      case measure => simp [intOf]; omega
    · obtain rfl : nS = k := by omega
      have hf := HR.out
      rw [List.take_of_length_le (by rw [HS.out.len]; exact Nat.le_refl _)] at hf
      obtain ⟨fa, fc, rfl, hfs⟩ := hf.fs
      rw [HS.out.len] at hfs
      have hsl : l.length = nS := HS.out.len
      rw [hsl]
      have HFS : Hid (FS wr fa nS fc l) := hfs
      have CV := const_at wr #[.int .u8 36, .int .u8 48] 2 2 wr.heap.size rfl
      have HC := bs_const wr [36, 48] (2, 3) (by decide) (by decide)
      obtain ⟨W, hW⟩ : ∃ W, wr.alloc (.cells #[.int .u8 36, .int .u8 48] 5 (2, 3)) = W := ⟨_, rfl⟩
      have CV' : (convert 22 22 (.slice (some ⟨wr.heap.size, 0, none⟩) 2 2)).run Try.prog (wr.alloc (.cells #[.int .u8 36, .int .u8 48] 5)) = .ok (.slice (some ⟨wr.heap.size, 0, none⟩) 2 2) W := by rw [← hW]; exact CV
      have HC' : BS W (some ⟨wr.heap.size, 0, none⟩) 2 2 [36, 48] := by rw [← hW]; exact HC
      have B0 : Below wr.heap.size wr W := by rw [← hW]; exact (Below.refl _ wr).alloc (Nat.le_refl _) _
      have C := tmpl_any (some ⟨wr.heap.size, 0, none⟩) 2 2 [36, 48] 0 none 0 0 [] W HC' (TS.nilv W) (by decide)
      rw [show (2 + 1 : Nat) = 3 from rfl, self_tm] at C
      have HB0 : Hid (Below wr.heap.size wr W) := B0
      clear B0 HC HC' CV hW hf hfs HR HGL hgl hsl hlt hk
      go_wp2_with fail
      refine C.mono ?_
      rintro e w1 ⟨⟨v, qs, rfl, hP, hq⟩, hb1⟩
      obtain ⟨gp, cp, xa, xn, xc, rfl, hP1⟩ := psat_p1 hP hq
      have hbr1 := HB0.out.trans (hb1.mono HB0.out.size)
      have hbA : Below w1.heap.size w1 (w1.alloc (.cells #[.int .i64 0, .int .i64 0] 28)) := (Below.refl _ _).alloc (Nat.le_refl _) _
      have hg := heap_alloc_new w1 (.cells #[.int .i64 0, .int .i64 0] 28)
      have hP1' := hP1.below hbA
      have hbr := hbr1.trans (hbA.mono hbr1.size)
      have hbw := HBE.out.trans (hbr.mono hsz)
      have hFS1 := HFS.out.below hbr
      obtain ⟨G1, hG1⟩ : ∃ g, w1.heap.size = g := ⟨_, rfl⟩
      obtain ⟨W1, hW1⟩ : ∃ W, w1.alloc (.cells #[.int .i64 0, .int .i64 0] 28) = W := ⟨_, rfl⟩
      rw [hW1] at hg hP1' hbr hbw hFS1
      rw [hG1] at hg
      have HF1 : Hid (W1.heap[G1]? = some (.cells #[.int .i64 0, .int .i64 0] 28 (0, 0))) := hg
      have HBW : Hid (Below w.heap.size w W1) := hbw
      have HFS1 : Hid (FS W1 fa nS fc l) := hFS1
      have HP1 : Hid (P1 W1 gp (.slice xa xn xc) 0) := hP1'
      have HWE : Hid (_ = W1) := hW1
      have HGE : Hid (_ = G1) := hG1
      clear C CV' hP hq hb1 HB0 HFS hP1 hP1' hbr1 hbA hg hbr hbw hFS1 hW1 hG1
      have RP := replace_no ao n cap fa nS fc l (.slice (some ⟨gp, 0, none⟩) 1 cp) W1 HFS1.out HA.out hnS
      go_wp2_with fail
      rw [HWE.out, HGE.out]
      clear HWE HGE
      refine RP.mono ?_
      rintro e w2 ⟨rfl, hb2⟩
      have hbA : ∀ o, Below w2.heap.size w2 (w2.alloc o) := fun o => (Below.refl _ _).alloc (Nat.le_refl _) _
      have RP2 : Hid (∀ o pv, Calls Try.prog 15 #[.slice ao n cap, .slice fa nS fc, pv] (w2.alloc o) fun e w' => e = .returned (.tuple #[.slice none 0 0, .int .i64 1]) ∧ Below (w2.alloc o).heap.size (w2.alloc o) w') := fun o pv => replace_no ao n cap fa nS fc l pv (w2.alloc o) ((HFS1.out.below hb2).below (hbA o)) HA.out hnS
      have HB2 : Hid (∀ o w', Below (w2.alloc o).heap.size (w2.alloc o) w' → Below w.heap.size w w') := fun o w' hb => by
        have h1 := HBW.out.trans (hb2.mono HBW.out.size)
        have h2 := h1.trans ((hbA o).mono h1.size)
        exact h2.trans (hb.mono h2.size)
      clear RP hb2 hbA HFS1 HP1 HBW HF1
      go_wp2_with fail
      refine (RP2.out _ _).mono ?_
      rintro e w3 ⟨rfl, hb3⟩
      have hw3 := HB2.out _ _ hb3
      have HB3 : Hid (Below w.heap.size w w3) := hw3
      have SPL := split_no ao n cap aS nS cS l w3 (HS.out.below hw3) HA.out
      clear RP2 HB2 hb3 hw3
      go_wp2_with fail
      refine SPL.mono ?_
      rintro e w4 ⟨rfl, hb4⟩
      have HB4 : Hid (Below w.heap.size w w4) := HB3.out.trans (hb4.mono HB3.out.size)
      have AW := awake_any w4
      clear SPL hb4 HB3
      go_wp2_with (go_at_call 14; refine AW.mono ?_; rintro e w' ⟨rfl, hbel⟩)
      go_ret
      exact ⟨rfl, HB4.out.trans (Below.mono (by assumption) HB4.out.size)⟩

set_option maxHeartbeats 4000000 in
set_option maxRecDepth 100000 in
theorem self_yes (ao : Option Addr) (n cap : Nat) (b : List Int) (aS : Option Addr) (nS cS : Nat) (l : List Sp) (aX : Option Addr) (nX cX : Nat) (t : List Int) (w : World) (hB : BS w ao n cap b) (hS : SS w aS nS cS l) (hX : BS w aX nX cX t) (h : apB n 0 l = true) (hn : n ≤ 1048576) (hnS : nS ≤ 1048576) (hnX : nX ≤ 1048576) :
    Calls Try.prog 7 #[.slice ao n cap, .slice aS nS cS, .slice aX nX cX] w fun e w' => e = .returned (.bool true) ∧ Below w.heap.size w w' := by
  obtain ⟨i1, hj, hy0, hy1, hy2⟩ := info_parts infoFound
  have hnc := hB.nc
  have hcm := hB.cm
  have hSn := hS.nc
  have hSm := hS.cm
  have hXn := hX.nc
  have hXm := hX.cm
  have HB : Hid (BS w ao n cap b) := hB
  have HX : Hid (BS w aX nX cX t) := hX
  have HS : Hid (SS w aS nS cS l) := hS
  have HA : Hid (apB n 0 l = true) := h
  clear hB hS h hX
  go_enter Try.func7, Try.ntmps7
  go_wp2
  go_loopw [7, 20] (fun v i wr => ∃ (k : Nat) (gs : List Nat), k ≤ nS ∧ i = .int .i64 k ∧ Hid (gs.length = k) ∧ Hid (FO wr w.heap.size v gs (l.take k)) ∧ Hid (Below w.heap.size w wr)) (fun _ i _ => nS - (intOf i).toNat)
  case atStart => exact ⟨0, [], Nat.zero_le _, rfl, rfl, by rw [List.take_zero]; exact FO.nil _ _, Below.refl _ _⟩
  case round =>
    obtain ⟨k, gs, hk, rfl, HGL, HR, HBE⟩ := hrel
    have hsz := HBE.out.size
    have hgl : gs.length ≤ nS := by rw [HGL.out]; exact hk
    by_cases hlt : k < nS
    · obtain ⟨bb, off, rfl, hc⟩ := (HS.out.below HBE.out).at_ (by omega)
      obtain ⟨c0, c1⟩ := hc k hlt
      have HTK : Hid (l.take (k + 1) = l.take k ++ [l.getD k (0, 0)]) := take_snoc l k (0, 0) (by rw [HS.out.len]; exact hlt)
      clear hc
      generalize l.getD k (0, 0) = p at *
      obtain ⟨x, y⟩ := p
      simp only at c0 c1
      have HVB : Hid (∀ k, u7.ownBlock = some k → w.heap.size ≤ k) := fun k e => (HR.out.row.lt k e).1
      go_wp2_with (at_builtin; refine wpList_append_lies _ rfl _ _ 41 rfl w.heap.size 56 i1 (.agg #[.slice none 0 0]) 1 24 Try.underlying41 hj hy0 hy1 hy2 rfl (by decide) _ gs.length _ rfl (((HR.out.alloc _).alloc _).alloc _).row ⟨wr.heap.size + 1 + 1, 0, none⟩ 1 1 [.slice (some ⟨wr.heap.size + 1, 0, none⟩) 1 1] rfl rfl ?f1 ?f2 (by decide) ?f3 ?f4 ?f5 (wr.heap.size + 3) ?f6 ?_)
      case f1 => have := found_new ((wr.alloc (.cells #[.int .i64 x, .int .i64 y] 54)).alloc (.cells #[.int .i64 x, .int .i64 y] 54)) (.slice (some ⟨wr.heap.size + 1, 0, none⟩) 1 1); simpa using this
      case f2 => intro u hu; simp at hu; subst hu; rfl
      case f3 => unfold maxLen; omega
      case f4 => omega
      case f5 => simp; omega
      case f6 => simp
      intro g c5 w5 hown hgrow hat hlt5
      have R1 : Hid (FO w5 w.heap.size (.slice (some ⟨g, 0, none⟩) (gs.length + 1) c5) (gs ++ [wr.heap.size + 1]) (l.take (k + 1))) := by
        rw [HTK.out]
        refine (((HR.out.alloc _).alloc _).alloc _).snoc _ x y ?_ hown hgrow
        rw [Below.heap_alloc _ _ _ (by simp)]
        have := heap_alloc_new (wr.alloc (.cells #[.int .i64 x, .int .i64 y] 54)) (.cells #[.int .i64 x, .int .i64 y] 54)
        simpa using this
      have R2 : Hid (Below w.heap.size w w5) := Below.grown (((HBE.out.alloc hsz _).alloc (by simp; omega) _).alloc (by simp; omega) _) hgrow (by simp; omega) HVB.out
      clear hown hgrow hat hlt5 HR HBE HTK
      go_wp2
      go_roundw
      case rel => exact ⟨k + 1, gs ++ [wr.heap.size + 1], by omega, by go_num, by show (gs ++ [_]).length = k + 1; rw [List.length_append, HGL.out]; rfl, R1, R2⟩
      case measure => simp [intOf]; omega
    · obtain rfl : nS = k := by omega
      have hf := HR.out
      rw [List.take_of_length_le (by rw [HS.out.len]; exact Nat.le_refl _)] at hf
      obtain ⟨fa, fc, rfl, hfs⟩ := hf.fs
      rw [HS.out.len] at hfs
      have hsl : l.length = nS := HS.out.len
      rw [hsl]
      have HFS : Hid (FS wr fa nS fc l) := hfs
      have CV := const_at wr #[.int .u8 36, .int .u8 48] 2 2 wr.heap.size rfl
      have HC := bs_const wr [36, 48] (2, 3) (by decide) (by decide)
      obtain ⟨W, hW⟩ : ∃ W, wr.alloc (.cells #[.int .u8 36, .int .u8 48] 5 (2, 3)) = W := ⟨_, rfl⟩
      have CV' : (convert 22 22 (.slice (some ⟨wr.heap.size, 0, none⟩) 2 2)).run Try.prog (wr.alloc (.cells #[.int .u8 36, .int .u8 48] 5)) = .ok (.slice (some ⟨wr.heap.size, 0, none⟩) 2 2) W := by rw [← hW]; exact CV
      have HC' : BS W (some ⟨wr.heap.size, 0, none⟩) 2 2 [36, 48] := by rw [← hW]; exact HC
      have B0 : Below wr.heap.size wr W := by rw [← hW]; exact (Below.refl _ wr).alloc (Nat.le_refl _) _
      have C := tmpl_any (some ⟨wr.heap.size, 0, none⟩) 2 2 [36, 48] 0 none 0 0 [] W HC' (TS.nilv W) (by decide)
      rw [show (2 + 1 : Nat) = 3 from rfl, self_tm] at C
      have HB0 : Hid (Below wr.heap.size wr W) := B0
      clear B0 HC HC' CV hW hf hfs HR HGL hgl hsl hlt hk
      go_wp2_with fail
      refine C.mono ?_
      rintro e w1 ⟨⟨v, qs, rfl, hP, hq⟩, hb1⟩
      obtain ⟨gp, cp, xa, xn, xc, rfl, hP1⟩ := psat_p1 hP hq
      have hbr1 := HB0.out.trans (hb1.mono HB0.out.size)
      have hbA : Below w1.heap.size w1 (w1.alloc (.cells #[.int .i64 0, .int .i64 0] 28)) := (Below.refl _ _).alloc (Nat.le_refl _) _
      have hg := heap_alloc_new w1 (.cells #[.int .i64 0, .int .i64 0] 28)
      have hP1' := hP1.below hbA
      have hbr := hbr1.trans (hbA.mono hbr1.size)
      have hbw := HBE.out.trans (hbr.mono hsz)
      have hFS1 := HFS.out.below hbr
      obtain ⟨G1, hG1⟩ : ∃ g, w1.heap.size = g := ⟨_, rfl⟩
      obtain ⟨W1, hW1⟩ : ∃ W, w1.alloc (.cells #[.int .i64 0, .int .i64 0] 28) = W := ⟨_, rfl⟩
      rw [hW1] at hg hP1' hbr hbw hFS1
      rw [hG1] at hg
      have HF1 : Hid (W1.heap[G1]? = some (.cells #[.int .i64 0, .int .i64 0] 28 (0, 0))) := hg
      have HBW : Hid (Below w.heap.size w W1) := hbw
      have HFS1 : Hid (FS W1 fa nS fc l) := hFS1
      have HP1 : Hid (P1 W1 gp (.slice xa xn xc) 0) := hP1'
      have HWE : Hid (_ = W1) := hW1
      have HGE : Hid (_ = G1) := hG1
      clear C CV' hP hq hb1 HB0 HFS hP1 hP1' hbr1 hbA hg hbr hbw hFS1 hW1 hG1
      have RP := replace_yes ao n cap b fa nS fc l (.slice (some ⟨gp, 0, none⟩) 1 cp) (fun x y => (b.drop x).take (y - x)) W1 (HB.out.below HBW.out) HFS1.out HA.out hn hnS
        (fun x y _ hy => by rw [List.length_take]; omega)
        (fun W ov o g x y hb hO c0 c1 hxy hyn hol => expand_self W1.heap.size ov o gp cp xa xn xc ao n cap b g x y W hO (HP1.out.below hb) (fun W' hb' => (HB.out.below HBW.out).below (hb.trans hb')) c0 c1 hxy hyn hb.size (by omega) hn)
      rw [self_repl b l 0 (by rw [HB.out.len]; exact HA.out), List.drop_zero] at RP
      go_wp2_with fail
      rw [HWE.out, HGE.out]
      clear HWE HGE
      refine RP.mono ?_
      rintro e w2 ⟨v, rfl, hO, hb2⟩
      obtain ⟨va, vc, rfl, hV⟩ := hO.bs HB.out.rg
      rw [HB.out.len] at hV ⊢
      have hvn := hV.nc
      have hvm := hV.cm
      have hbA : Below w2.heap.size w2 (w2.alloc (.cells #[.slice aX nX cX, .int .i64 (-1)] 37)) := (Below.refl _ _).alloc (Nat.le_refl _) _
      have hp := part_one w2 (.slice aX nX cX) (-1)
      have hw2 := HBW.out.trans (hb2.mono HBW.out.size)
      have hw2' := hw2.trans (hbA.mono hw2.size)
      have hF := (HFS1.out.below hb2).below hbA
      have hV2 := hV.below hbA
      have hf2 := (hb2.block _ (Array.getElem?_eq_some_iff.1 HF1.out).1).trans HF1.out
      have hf3 := (hbA.block _ (Array.getElem?_eq_some_iff.1 hf2).1).trans hf2
      obtain ⟨G2, hG2⟩ : ∃ g, w2.heap.size = g := ⟨_, rfl⟩
      obtain ⟨W2, hW2⟩ : ∃ W, w2.alloc (.cells #[.slice aX nX cX, .int .i64 (-1)] 37) = W := ⟨_, rfl⟩
      rw [hW2] at hp hw2' hF hV2 hf3
      rw [hG2] at hp
      have HV : Hid (BS W2 va n vc b) := hV2
      have HP2 : Hid (P1 W2 G2 (.slice aX nX cX) (-1)) := hp
      have HW2 : Hid (Below w.heap.size w W2) := hw2'
      have HF2 : Hid (W2.heap[G1]? = some (.cells #[.int .i64 0, .int .i64 0] 28 (0, 0))) := hf3
      have HFS2 : Hid (FS W2 fa nS fc l) := hF
      have RP2 := replace_yes ao n cap b fa nS fc l (.slice (some ⟨G2, 0, none⟩) 1 1) (fun _ _ => t) W2 (HB.out.below HW2.out) HFS2.out HA.out hn hnS
        (fun x y _ hy => by rw [HX.out.len]; exact hnX)
        (fun W ov o g x y hb hO c0 c1 hxy hyn hol => expand_text W2.heap.size ov o G2 1 aX nX cX t _ _ _ W rfl hO (HP2.out.below hb) (fun W' hb' => (HX.out.below HW2.out).below (hb.trans hb')) hb.size (by omega))
      have HWE : Hid (_ = W2) := hW2
      have HGE : Hid (_ = G2) := hG2
      clear RP hb2 hO hV hbA hp hw2 hw2' hF hV2 hf2 hf3 hW2 hG2 HFS1 HP1 HBW HF1
      go_wp2_with fail
      rw [HWE.out, HGE.out]
      clear HWE HGE
      refine RP2.mono ?_
      rintro e w3 ⟨yv, rfl, hO, hb3⟩
      have hyb : Byt (replL b (fun _ _ => t) 0 l) := replL_byt b t (mem_range HB.out.rg) (mem_range HX.out.rg) l 0
      obtain ⟨ya, yc, rfl, hY⟩ := hO.bs (range_mem hyb)
      have hw3 := HW2.out.trans (hb3.mono HW2.out.size)
      have HV3 : Hid (BS w3 va n vc b) := HV.out.below hb3
      have HF3 : Hid (w3.heap[G1]? = some (.cells #[.int .i64 0, .int .i64 0] 28 (0, 0))) := (hb3.block _ (Array.getElem?_eq_some_iff.1 HF2.out).1).trans HF2.out
      have HY3 : Hid (BS w3 ya (replL b (fun _ _ => t) 0 l).length yc (replL b (fun _ _ => t) 0 l)) := hY
      have HB3 : Hid (Below w.heap.size w w3) := hw3
      have hyn := hY.nc
      have hym := hY.cm
      have SPL := split_yes ao n cap b aS nS cS l w3 (HB.out.below hw3) (HS.out.below hw3) HA.out hn hnS
      obtain ⟨L, hL⟩ : ∃ L, (replL b (fun _ _ => t) 0 l).length = L := ⟨_, rfl⟩
      have HJ : Hid (Lib.join ((cutL b 0 l).map Lib.bytesOf) (Lib.bytesOf t) = Lib.bytesOf (replL b (fun _ _ => t) 0 l)) := join_repl b t l 0
      generalize replL b (fun _ _ => t) 0 l = RL at *
      rw [hL] at HY3 hyn ⊢
      clear RP2 hb3 hO hY hw3 HV HF2 HW2 HFS2 HP2 hyb hL
      go_wp2_with fail
      refine SPL.mono ?_
      rintro e w4 ⟨zv, ts, rfl, hR, he, hb4⟩
      have hl1 : ts.length = nS + 1 := by
        have h1 := congrArg List.length he
        rw [List.length_map, cutL_length, HS.out.len] at h1
        exact h1
      have hrow := hR.row
      obtain ⟨g, vc2, rfl, _, hg⟩ := hrow.form (by omega)
      have hw4 := HB3.out.trans (hb4.mono HB3.out.size)
      obtain ⟨p0, p1⟩ := fault_at ((hb4.block _ (Array.getElem?_eq_some_iff.1 HF3.out).1).trans HF3.out)
      have EQ1 := beq_same _ _ _ w4 (HV3.out.below hb4).bts (HB.out.below hw4).bts
      have JN := join_any w3.heap.size g vc2 ts aX nX cX t w4 hR (fun q hq => cutL_byt b (mem_range HB.out.rg) l 0 q.2 (by rw [← he]; exact List.mem_map.2 ⟨q, hq, rfl⟩)) (HX.out.below hw4) (by omega) (by omega) hnX
        (by rw [he]; have := lens_cut b l 0 (by rw [HB.out.len]; exact HA.out) (Nat.zero_le _); have := HB.out.len; omega)
      rw [he, HJ.out, hl1] at JN
      have EQ2 : Hid (∀ w5 v' xs, Below w4.heap.size w4 w5 → Bts w5 v' xs → Lib.bytesOf xs = Lib.bytesOf RL → Calls Try.prog 12 #[.slice ya L yc, v'] w5 fun e w' => e = .returned (.bool true) ∧ w' = w5) := fun w5 v' xs hb hx hxe => by
        have := beq_any _ _ _ _ w5 ((HY3.out.below hb4).below hb).bts hx
        rw [hxe] at this
        simpa using this
      have HB4 : Hid (Below w.heap.size w w4) := hw4
      rw [hl1]
      clear SPL hR he hb4 hl1 hrow hw4 HV3 HF3 HY3 HB3 HJ
      go_wp2_with (first
        | (go_at_call_of 12 (Value.slice va n vc); refine EQ1.mono ?_; rintro e w' ⟨rfl, hw⟩; obtain rfl := hw.symm)
        | (go_at_call 21; fail))
      refine JN.mono ?_
      rintro e w5 ⟨jv, xs, rfl, hJb, hJe, hb5⟩
      have EQ3 := EQ2.out w5 jv xs hb5 hJb hJe
      have AW := awake_any w5
      have HB5 : Hid (Below w.heap.size w w5) := HB4.out.trans (hb5.mono HB4.out.size)
      clear JN EQ1 EQ2 hJb hJe hb5 HB4
      go_wp2_with (first
        | (go_at_call 12; refine EQ3.mono ?_; rintro e w' ⟨rfl, hw⟩; obtain rfl := hw.symm)
        | (go_at_call 14; refine AW.mono ?_; rintro e w' ⟨rfl, hbel⟩))
      go_ret
      exact ⟨rfl, HB5.out.trans (Below.mono (by assumption) HB5.out.size)⟩
theorem self_walk (ao : Option Addr) (n cap : Nat) (b : List Int) (aS : Option Addr) (nS cS : Nat) (l : List Sp) (aX : Option Addr) (nX cX : Nat) (t : List Int) (w : World) (hB : BS w ao n cap b) (hS : SS w aS nS cS l) (hX : BS w aX nX cX t) (hn : n ≤ 1048576) (hnS : nS ≤ 1048576) (hnX : nX ≤ 1048576) :
    Calls Try.prog 7 #[.slice ao n cap, .slice aS nS cS, .slice aX nX cX] w fun e w' => e = .returned (.bool true) ∧ Below w.heap.size w w' := by
  cases h : apB n 0 l with
  | false => exact self_no ao n cap b aS nS cS l aX nX cX t w hB hS hX h hn hnS hnX
  | true => exact self_yes ao n cap b aS nS cS l aX nX cX t w hB hS hX h hn hnS hnX
end Go.Proofs.Ytfnndnlhdfjggaa.edt
