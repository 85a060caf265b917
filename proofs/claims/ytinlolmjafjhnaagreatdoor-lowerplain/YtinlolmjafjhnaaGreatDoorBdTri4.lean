/- Texts that the proof leans on, one behind the other. -/
import Derived.Test.YtinlolmjafjhnaaGreatDoorBdTri3
import Derived.Deep.RegionHeld3
import Derived.Deep.AppendLies
import Derived.Deep.OwnRows

section
/- What trie.Build answers, at values of type string: a trie that tells of each code point the value of the last entry with it. -/
set_option linter.unusedVariables false
set_option linter.unusedSimpArgs false
namespace Go.Proofs.YtinlolmjafjhnaaGreatDoor.tri.str
open Go.RowKit Go.Proofs.YtinlolmjafjhnaaGreatDoor.tri
open Go.Proofs.YtinlolmjafjhnaaGreatDoor.rng (ret_int ret_bool below_drewN info_parts own_below')

theorem infoRun : (Tryz.prog.info? 138).map (fun i => (i.zero, i.size, i.bytes)) = some (some (.agg #[.int .i64 0, .int .i64 0, .string ⟨#[]⟩]), 3, 32) := by kernel_rfl
theorem RV.setOther {w : World} {V : Int → ByteArray} {ao : Option Addr} {l : List E} (h : RV w V ao l) {tb i : Nat} (hne : ∀ b, ao = Option.some ⟨b, 0, none⟩ → b ≠ tb) (u : Value) : RV (w.setCell ⟨tb, i, none⟩ u) V ao l := by
 rcases h with h | ⟨b, rfl, h⟩
 ·exact .inl h
 ·have hb := Below.heap_setCell w ⟨tb, i, none⟩ u b (hne b rfl)
  exact .inr ⟨b, rfl, fun i p hi => by
   obtain ⟨h1, h2, h3⟩ := h i p hi
   exact ⟨(World.cell?_of_block (a := ⟨b, _, none⟩) hb).trans h1, (World.cell?_of_block (a := ⟨b, _, none⟩) hb).trans h2, (World.cell?_of_block (a := ⟨b, _, none⟩) hb).trans h3⟩⟩
theorem flat_one (V : Int → ByteArray) (x y z : Int) : ∀ u ∈ [Value.int .i64 x, Value.int .i64 y, .string (V (z))], u.oneCell' = true := by
 intro u hu
 simp only [List.mem_cons, List.mem_nil_iff, or_false] at hu
 rcases hu with rfl | rfl | rfl <;> rfl

set_option maxRecDepth 100000 in
set_option maxHeartbeats 8000000 in
theorem build_any (V : Int → ByteArray) (ao va : Option Addr) (cap vn vcap : Nat) (l : List E) (w : World) (hn : l.length ≤ 1000000) (hv : EV w ao l) (hvs : Vals w V va vn) :
  Calls Tryz.prog 56 #[.slice ao l.length cap, .slice va vn vcap] w fun e w' => ∃ tb s, e = .returned (.pointer (some ⟨tb, 0, none⟩)) ∧ TrieIs w' V tb s ∧ Ris vn 0 s ∧ (∀ x, at_ s x = last (use vn l) x) ∧ Below w.heap.size w w' := by
 obtain ⟨i0, hi, hz0, hz1, hz2⟩ := info_parts infoRun
 have B0 := (Below.refl w.heap.size w).alloc (Nat.le_refl _) (.cells #[.slice none 0 0, .slice none 0 0] 134)
 have C := use_any ao cap l vn (w.alloc (.cells #[.slice none 0 0, .slice none 0 0] 134)) hn (hv.below B0)
 have HVS : Hid (Vals w V va vn) := hvs
 have z0 : (w.alloc (.cells #[.slice none 0 0, .slice none 0 0] 134)).cell? ⟨w.heap.size, 0, none⟩ = some (.slice none 0 0) := by simp
 have z1 : (w.alloc (.cells #[.slice none 0 0, .slice none 0 0] 134)).cell? ⟨w.heap.size, 1, none⟩ = some (.slice none 0 0) := by simp
 have zf : ∀ i, (w.alloc (.cells #[.slice none 0 0, .slice none 0 0] 134)).frozen? ⟨w.heap.size, i, none⟩ = false := fun i => by simp
 have zs : (w.alloc (.cells #[.slice none 0 0, .slice none 0 0] 134)).heap.size = w.heap.size + 1 := by simp
 have hul := use_length (vn : Int) l
 have HUM : Hid (∀ e ∈ use vn l, good vn e = true ∧ 0 ≤ e.1 ∧ e.2.1 ≤ 1114111) := fun e he => use_mem e he
 clear hv hvs
 generalize l.length = ln at *
 go_enter Tryz.func56, Tryz.ntmps56
 go_wp2_with fail
 generalize hw0 : w.alloc (.cells #[.slice none 0 0, .slice none 0 0] 134) = w0 at *
 clear hw0
 refine C.mono ?_
 rintro e w1 ⟨g, c, rfl, ho, b1⟩
 clear C
 obtain ⟨q1, q2, q3, q4⟩ := ho.at
 obtain ⟨hcap1, hcap2⟩ : (use (vn : Int) l).length ≤ c ∧ c ≤ 9223372036854775807 := by
  rcases ho.2 with ⟨h0, _⟩ | ⟨g', c', cur, hv', _, _, h1, h2, _⟩
  ·cases h0
  ·cases hv'; unfold maxLen at h2; exact ⟨h1, by omega⟩
 have D := settled_any vn _ g 0 c (use vn l) w1 rfl (by omega) hcap1 hcap2 q1 q3 q4 HUM.out
 clear ho q1 q4 hcap1 hcap2
 generalize (use (vn : Int) l).length = un at *
 go_wp2_with fail
 refine D.mono ?_
 rintro e w2 ⟨b, o, k, c2, s, rfl, r⟩
 clear D
 have b2 : Below w0.heap.size w1 w2 := r.chg.below b1.size q2
 have D := joined_any vn (some ⟨b, o, none⟩) c2 s w2 (by have := ris_len r.ris; omega) (.inr ⟨b, o, rfl, r.row⟩) r.ris
 rw [r.len] at D
 have HT0 : Hid (∀ x, at_ s x = last (use vn l) x) := r.tells
 clear r
 go_wp2_with fail
 refine D.mono ?_
 rintro e w3 ⟨v3, s3, rfl, o3, hr3, ht3, b3⟩
 clear D
 have b13 := b1.trans (b2.trans (b3.mono (by have := b1.size; have := b2.size; omega)))
 have HT : Hid (∀ x, at_ s3 x = last (use vn l) x) := fun x => (ht3 x).trans (HT0.out x)
 have HR : Hid (Ris vn 0 s3) := hr3
 obtain ⟨a3, c3, rfl, hv3, _, _, _⟩ := tri.Own.view o3
 have HV : Hid (s3 = [] ∨ ∃ b off, a3 = some ⟨b, off, none⟩ ∧ w.heap.size ≠ b ∧ EAt w3 b off s3) := by
  rcases hv3 with h | ⟨b, off, rfl, h⟩
  ·exact .inl h
  ·refine .inr ⟨b, off, rfl, ?_, h⟩
   have := (World.ownsRow.lt o3 b rfl).1; have := b1.size; have := b2.size; omega
 have hm3 := ris_len hr3
 obtain ⟨m, hl⟩ : ∃ m, s3.length = m := ⟨_, rfl⟩
 rw [hl] at hm3 ⊢
 have HL : Hid (s3.length = m) := hl
 have y0 := (b13.cell (p := ⟨w.heap.size, 0, none⟩) (by rw [zs]; exact Nat.lt_succ_self _)).trans z0
 have y1 := (b13.cell (p := ⟨w.heap.size, 1, none⟩) (by rw [zs]; exact Nat.lt_succ_self _)).trans z1
 have HF : Hid (∀ i, w3.frozen? ⟨w.heap.size, i, none⟩ = false) := fun i => (b13.frozen (p := ⟨w.heap.size, i, none⟩) (by rw [zs]; exact Nat.lt_succ_self _)).trans (zf i)
 have HB : Hid (Below w.heap.size w w3) := B0.trans (b13.mono (by rw [zs]; omega))
 have hts : w.heap.size < w3.heap.size := by have := b13.size; omega
 clear z0 z1 zf zs b13 b1 b2 b3 B0 o3 hv3 hr3 ht3 hl HT0 q2 q3 HUM hul
 go_wp2
 go_loopw [17] (fun i wr => ∃ (k : Nat) (ua : Option Addr) (uc : Nat), k ≤ m ∧ i = .int .i64 k ∧ wr.cell? ⟨w.heap.size, 0, none⟩ = some (.slice ua k uc) ∧ Hid (wr.ownsRow w3.heap.size 138 3 (.slice ua k uc) k (flat V (s3.take k))) ∧ Mut w3 wr w.heap.size 0 1) (fun i _ => m - (intOf i).toNat)
 case atStart => exact ⟨0, none, 0, Nat.zero_le _, rfl, y0, World.ownsRow_nil _ _ _ _, Mut.refl _ _ _ _⟩
 case round =>
  obtain ⟨k, ua, uc, hk, rfl, hc0, HO, hmut⟩ := hrel
  clear y0
  have hs1 := hmut.size
  have hfz0 : wr.frozen? ⟨w.heap.size, 0, none⟩ = false := frozen_mut hmut hts HF.out 0
  by_cases hlt : k < m
  ·obtain ⟨x, y, z, hp⟩ := get3 HL.out hlt
   obtain ⟨b, off, rfl, hbt, hc⟩ : ∃ b off, a3 = some ⟨b, off, none⟩ ∧ w.heap.size ≠ b ∧ EAt w3 b off s3 := by
    rcases HV.out with h | h
    ·rw [h] at hp; simp at hp
    ·exact h
   obtain ⟨c1, c2, c3⟩ := (hc.mut hmut (.inl (Ne.symm hbt))) k (x, y, z) hp
   simp only at c1 c2 c3
   obtain ⟨_, _, _, hz0', hzn'⟩ := ris_mem HR.out (x, y, z) (List.mem_of_getElem? hp)
   simp only at hz0' hzn'
   obtain ⟨zn, rfl⟩ : ∃ zn : Nat, z = (zn : Int) := ⟨z.toNat, by omega⟩
   have hzn : zn < vn := by omega
   obtain ⟨vb, voff, rfl, hvc⟩ : ∃ b off, va = some ⟨b, off, none⟩ ∧ ∀ i : Nat, i < vn → w.cell? ⟨b, off + i, none⟩ = some (.string (V ((i : Int)))) := by
    rcases HVS.out with h | h
    ·omega
    ·exact h
   have vlt : vb < w.heap.size := World.block_lt_of_cell? w _ (hvc zn hzn)
   have cv : wr.cell? ⟨vb, voff + zn, none⟩ = some (.string (V ((zn : Int)))) := hmut.other ((HB.out.cell (p := ⟨vb, voff + zn, none⟩) vlt).trans (hvc zn hzn)) (by omega)
   have HTK : Hid (s3.take (k + 1) = s3.take k ++ [(x, y, (zn : Int))]) := takeX hp
   have HWB : Hid (∀ j, (Value.slice ua k uc).ownBlock = some j → w3.heap.size ≤ j) := fun j e => (HO.out.lt _ e).1
   have HWL : Hid (∀ j, (Value.slice ua k uc).ownBlock = some j → j < wr.heap.size) := fun j e => (HO.out.lt _ e).2
   have KEEP : Hid (∀ (W W' : World) (g cap : Nat), W'.ownsRow w3.heap.size 138 3 (.slice (some ⟨g, 0, none⟩) (k + 1) cap) (k + 1) (flat V (s3.take k) ++ [.int .i64 x, .int .i64 y, .string (V ((zn : Int)))]) → W.grownBy W' (Value.slice ua k uc).ownBlock →
     Alike ((wr.alloc (.cells #[.int .i64 x, .int .i64 y, .int .i64 (zn : Int)] 95)).alloc (.cells #[.int .i64 x, .int .i64 y, .string (V ((zn : Int)))] 138)) W →
     W'.cell? ⟨wr.heap.size, 0, none⟩ = some (.int .i64 x) ∧ W'.cell? ⟨wr.heap.size, 1, none⟩ = some (.int .i64 y) ∧ W'.cell? ⟨wr.heap.size, 2, none⟩ = some (.int .i64 (zn : Int)) ∧ W'.cell? ⟨vb, voff + zn, none⟩ = some (.string (V ((zn : Int)))) ∧ W'.cell? ⟨w.heap.size, 0, none⟩ = some (.slice ua k uc) ∧ W'.frozen? ⟨w.heap.size, 0, none⟩ = false ∧
     Hid ((W'.setCell ⟨w.heap.size, 0, none⟩ (.slice (some ⟨g, 0, none⟩) (k + 1) cap)).cell? ⟨w.heap.size, 0, none⟩ = some (.slice (some ⟨g, 0, none⟩) (k + 1) cap)) ∧
     Hid ((W'.setCell ⟨w.heap.size, 0, none⟩ (.slice (some ⟨g, 0, none⟩) (k + 1) cap)).ownsRow w3.heap.size 138 3 (.slice (some ⟨g, 0, none⟩) (k + 1) cap) (k + 1) (flat V (s3.take (k + 1)))) ∧
     Hid (Mut w3 (W'.setCell ⟨w.heap.size, 0, none⟩ (.slice (some ⟨g, 0, none⟩) (k + 1) cap)) w.heap.size 0 1)) := fun W W' g cap how hgr al => by
    have hX := (hmut.alloc hts (.cells #[.int .i64 x, .int .i64 y, .int .i64 (zn : Int)] 95)).alloc hts (.cells #[.int .i64 x, .int .i64 y, .string (V ((zn : Int)))] 138)
    have hM := (hX.alike al).grown hts hgr HWB.out
    have nbx : some wr.heap.size ≠ (Value.slice ua k uc).ownBlock := fun e => by have := HWL.out _ e.symm; omega
    have nvb : some vb ≠ (Value.slice ua k uc).ownBlock := fun e => by have := HWB.out _ e.symm; omega
    have ntb : some w.heap.size ≠ (Value.slice ua k uc).ownBlock := fun e => by have := HWB.out _ e.symm; omega
    have t0 : W'.cell? ⟨w.heap.size, 0, none⟩ = some (.slice ua k uc) := hgr.cell (cell_alike (past1 (past1 hc0 _) _) al) ntb
    refine ⟨hgr.cell (cell_alike (past1 (by simp) _) al) nbx, hgr.cell (cell_alike (past1 (by simp) _) al) nbx, hgr.cell (cell_alike (past1 (by simp) _) al) nbx, hgr.cell (cell_alike (past1 (past1 cv _) _) al) nvb, t0, frozen_mut hM hts HF.out 0, cell_set_eq _ _ _ _ _ t0, ?_, hM.setCell (Nat.le_refl _) (by omega) _⟩
    unfold Hid; rw [HTK.out, flat_append, flat_three]
    exact ownsRow_setCell_below how hts _
   have HOW : Hid (((wr.alloc (.cells #[.int .i64 x, .int .i64 y, .int .i64 (zn : Int)] 95)).alloc (.cells #[.int .i64 x, .int .i64 y, .string (V ((zn : Int)))] 138)).ownsRow w3.heap.size 138 3 (.slice ua k uc) k (flat V (s3.take k))) := (HO.out.alloc _).alloc _
   have HNEW : Hid (∀ W, Alike ((wr.alloc (.cells #[.int .i64 x, .int .i64 y, .int .i64 (zn : Int)] 95)).alloc (.cells #[.int .i64 x, .int .i64 y, .string (V ((zn : Int)))] 138)) W → ∀ (j : Nat) u, [Value.int .i64 x, .int .i64 y, .string (V ((zn : Int)))][j]? = some u → W.cell? ((⟨wr.heap.size + 1, 0, none⟩ : Addr).add j) = some u) := fun W al j u hj => cell_alike (two_new wr _ _ _ _ _ j u hj) al
   have HBS : Hid (∀ W : World, Alike ((wr.alloc (.cells #[.int .i64 x, .int .i64 y, .int .i64 (zn : Int)] 95)).alloc (.cells #[.int .i64 x, .int .i64 y, .string (V ((zn : Int)))] 138)) W → w3.heap.size ≤ W.heap.size) := fun W al => by rw [al.heap]; simp; omega
   have H63 : Hid (k + 1 ≤ maxLen) := by unfold Hid maxLen; omega
   have HBY : Hid ((k + 1) * 32 ≤ 140737488355328) := by unfold Hid; omega
   have hz0i : (0 : Int) ≤ (zn : Int) := by omega
   have hzni : (zn : Int) < (vn : Int) := by omega
   have ne1 : ¬ w.heap.size = wr.heap.size := by omega
   have ne2 : ¬ wr.heap.size = w.heap.size := by omega
   have ne3 : ¬ w.heap.size = vb := by omega
   have ne4 : ¬ vb = w.heap.size := by omega
   have lt1 : w.heap.size < wr.heap.size := by omega
   have lt2 : vb < wr.heap.size := by omega
   clear hc hp HO hmut hbt hvc hz0' hzn'
   go_wp2
   refine wp_region_noPanic ?_
   refine wp_region_held_drew (S := (fun w' => w'.cell? ⟨wr.heap.size, 0, none⟩ = some (.int .i64 x) ∧ w'.cell? ⟨wr.heap.size, 1, none⟩ = some (.int .i64 y) ∧ w'.cell? ⟨wr.heap.size, 2, none⟩ = some (.int .i64 (zn : Int)) ∧ w'.cell? ⟨vb, voff + zn, none⟩ = some (.string (V ((zn : Int)))))) (by kernel_rfl) ?_ (fun hHeld => ?_)
   ·((try dsimp only); go_keep)
   refine wpAnyH_take (i := 0) (v := ?_) rfl (by kernel_rfl) (by kernel_rfl) (by kernel_rfl) (fun _ _ _ h => h) (Or.inl ⟨by rfl, ?_⟩) (by assumption) ?_
   rotate_left
   ·(intro w' hSw; (try dsimp only at hSw); go_simp; try with_reducible rfl)
   try simp only [Act.put, List.setIfInBounds_toArray, List.set_cons_zero, List.set_cons_succ]
   refine wpAnyH_take (i := 1) (v := ?_) rfl (by kernel_rfl) (by kernel_rfl) (by kernel_rfl) (fun _ _ _ h => h) (Or.inl ⟨by rfl, ?_⟩) (by assumption) ?_
   rotate_left
   ·(intro w' hSw; (try dsimp only at hSw); go_simp; try with_reducible rfl)
   try simp only [Act.put, List.setIfInBounds_toArray, List.set_cons_zero, List.set_cons_succ]
   refine wpAnyH_take (i := 2) (v := ?_) rfl (by kernel_rfl) (by kernel_rfl) (by kernel_rfl) (fun _ _ _ h => h) (Or.inl ⟨by rfl, ?_⟩) (by assumption) ?_
   rotate_left
   ·(intro w' hSw; (try dsimp only at hSw); go_simp; try with_reducible rfl)
   try simp only [Act.put, List.setIfInBounds_toArray, List.set_cons_zero, List.set_cons_succ]
   refine wpAnyH_take (i := 3) (v := ?_) rfl (by kernel_rfl) (by kernel_rfl) (by kernel_rfl) (fun _ _ _ h => h) (Or.inl ⟨by rfl, ?_⟩) (by assumption) ?_
   rotate_left
   ·(intro w' hSw; (try dsimp only at hSw); go_simp; try with_reducible rfl)
   try simp only [Act.put, List.setIfInBounds_toArray, List.set_cons_zero, List.set_cons_succ]
   refine wpAnyH_take (i := 5) (v := ?_) rfl (by kernel_rfl) (by kernel_rfl) (by kernel_rfl) (fun _ _ _ h => h) (Or.inl ⟨by rfl, ?_⟩) (by assumption) ?_
   rotate_left
   ·(intro w' hSw; (try dsimp only at hSw); go_simp; try with_reducible rfl)
   try simp only [Act.put, List.setIfInBounds_toArray, List.set_cons_zero, List.set_cons_succ]
   refine wpAnyH_take (i := 6) (v := ?_) rfl (by kernel_rfl) (by kernel_rfl) (by kernel_rfl) (fun _ _ _ h => h) (Or.inl ⟨by rfl, ?_⟩) (by assumption) ?_
   rotate_left
   ·(intro w' hSw; (try dsimp only at hSw); go_simp; try with_reducible rfl)
   try simp only [Act.put, List.setIfInBounds_toArray, List.set_cons_zero, List.set_cons_succ]
   refine wpAnyH_take (i := 7) (v := ?_) rfl (by kernel_rfl) (by kernel_rfl) (by kernel_rfl) (fun _ _ _ h => h) (Or.inl ⟨by rfl, ?_⟩) (by assumption) ?_
   rotate_left
   ·(intro w' hSw; (try dsimp only at hSw); go_simp; try with_reducible rfl)
   try simp only [Act.put, List.setIfInBounds_toArray, List.set_cons_zero, List.set_cons_succ]
   refine wpAnyH_take (i := 8) (v := ?_) rfl (by kernel_rfl) (by kernel_rfl) (by kernel_rfl) (fun _ _ _ h => h) (Or.inl ⟨by rfl, ?_⟩) (by assumption) ?_
   rotate_left
   ·(intro w' hSw; (try dsimp only at hSw); go_simp; try with_reducible rfl)
   try simp only [Act.put, List.setIfInBounds_toArray, List.set_cons_zero, List.set_cons_succ]
   refine wpAnyH_take (i := 9) (v := ?_) rfl (by kernel_rfl) (by kernel_rfl) (by kernel_rfl) (fun _ _ _ h => h) (Or.inl ⟨by rfl, ?_⟩) (by assumption) ?_
   rotate_left
   ·(intro w' hSw; (try dsimp only at hSw); go_simp; try with_reducible rfl)
   try simp only [Act.put, List.setIfInBounds_toArray, List.set_cons_zero, List.set_cons_succ]
   refine wpAnyH_take (i := 10) (v := ?_) rfl (by kernel_rfl) (by kernel_rfl) (by kernel_rfl) (fun _ _ _ h => h) (Or.inl ⟨by rfl, ?_⟩) (by assumption) ?_
   rotate_left
   ·(intro w' hSw; (try dsimp only at hSw); go_simp; try with_reducible rfl)
   try simp only [Act.put, List.setIfInBounds_toArray, List.set_cons_zero, List.set_cons_succ]
   refine wpAnyH_take (i := 11) (v := ?_) rfl (by kernel_rfl) (by kernel_rfl) (by kernel_rfl) (fun _ _ _ h => h) (Or.inl ⟨by rfl, ?_⟩) (by assumption) ?_
   rotate_left
   ·(intro w' hSw; (try dsimp only at hSw); go_simp; try with_reducible rfl)
   try simp only [Act.put, List.setIfInBounds_toArray, List.set_cons_zero, List.set_cons_succ]
   refine wpAnyH_take (i := 12) (v := ?_) rfl (by kernel_rfl) (by kernel_rfl) (by kernel_rfl) (fun _ _ _ h => h) (Or.inl ⟨by rfl, ?_⟩) (by assumption) ?_
   rotate_left
   ·(intro w' hSw; (try dsimp only at hSw); go_simp; try with_reducible rfl)
   try simp only [Act.put, List.setIfInBounds_toArray, List.set_cons_zero, List.set_cons_succ]
   refine wpAnyH_take (i := 13) (v := ?_) rfl (by kernel_rfl) (by kernel_rfl) (by kernel_rfl) (fun _ _ _ h => h) (Or.inl ⟨by rfl, ?_⟩) (by assumption) ?_
   rotate_left
   ·(intro w' hSw; (try dsimp only at hSw); go_simp; try with_reducible rfl)
   try simp only [Act.put, List.setIfInBounds_toArray, List.set_cons_zero, List.set_cons_succ]
   refine wpAnyH_take (i := 14) (v := ?_) rfl (by kernel_rfl) (by kernel_rfl) (by kernel_rfl) (fun _ _ _ h => h) (Or.inl ⟨by rfl, ?_⟩) (by assumption) ?_
   rotate_left
   ·(intro w' hSw; (try dsimp only at hSw); go_simp; try with_reducible rfl)
   try simp only [Act.put, List.setIfInBounds_toArray, List.set_cons_zero, List.set_cons_succ]
   refine wpAnyH_ready (rs := [4, 15]) (by kernel_rfl) (by simp) ?_
   refine AllReadyH.cons rfl (fun K hK => ?_) ?_
   ·go_simp
    refine hK.out _ _ ?_ (fun hHeld => ?_)
    ·((try dsimp only); go_keep)
    clear hK K
    try simp only [Act.put, List.setIfInBounds_toArray, List.set_cons_zero, List.set_cons_succ]
    refine wpAnyH_ready (rs := [15]) (by kernel_rfl) (by simp) ?_
    refine AllReadyH.cons rfl (fun K hK => ?_) ?_
    ·go_simp
     refine hK.out _ _ ?_ (fun hHeld => ?_)
     ·((try dsimp only); go_keep)
     clear hK K
     try simp only [Act.put, List.setIfInBounds_toArray, List.set_cons_zero, List.set_cons_succ]
     refine wpAnyH_ready (rs := [16]) (by kernel_rfl) (by simp) ?_
     refine AllReadyH.cons rfl (fun K hK => ?_) ?_
     ·refine step_append_lies _ rfl _ _ 132 rfl w3.heap.size 138 i0 (.agg #[.int .i64 0, .int .i64 0, .string ⟨#[]⟩]) 3 32 Tryz.underlying132 hi hz0 hz1 hz2 rfl (by decide) (.slice ua k uc) k (flat V (s3.take k)) (by simp [Act.eval, Act.put]) (own_heap HOW.out ⟨rfl, rfl, rfl, rfl⟩) ⟨wr.heap.size + 1, 0, none⟩ 1 1 [.int .i64 x, .int .i64 y, .string (V ((zn : Int)))] (by simp [Act.eval, Act.put]) rfl (HNEW.out _ ⟨rfl, rfl, rfl, rfl⟩) (flat_one V x y zn) (by decide) H63.out HBY.out (HBS.out _ ⟨rfl, rfl, rfl, rfl⟩) _ rfl ?_
      intro g cap w4 hown4 hgrow4 hat4 hlt4
      obtain ⟨k0, k1, k2, k3, k4, k5, R3, R1, R2⟩ := KEEP.out _ _ g cap hown4 hgrow4 ⟨rfl, rfl, rfl, rfl⟩
      clear hown4 hgrow4 hat4
      refine hK.out _ _ ?_ (fun hHeld => ?_)
      ·((try dsimp only); go_keep)
      clear hK K
      try simp only [Act.put, List.setIfInBounds_toArray, List.set_cons_zero, List.set_cons_succ]
      refine wpAnyH_take (i := 17) (v := ?_) rfl (by kernel_rfl) (by kernel_rfl) (by kernel_rfl) (fun _ _ _ h => h) (Or.inl ⟨by rfl, ?_⟩) (by assumption) ?_
      rotate_left
      ·(intro w' hSw; (try dsimp only at hSw); go_simp; try with_reducible rfl)
      try simp only [Act.put, List.setIfInBounds_toArray, List.set_cons_zero, List.set_cons_succ]
      refine wpAnyH_take (i := 18) (v := ?_) rfl (by kernel_rfl) (by kernel_rfl) (by kernel_rfl) (fun _ _ _ h => h) (Or.inl ⟨by rfl, ?_⟩) (by assumption) ?_
      rotate_left
      ·(intro w' hSw; (try dsimp only at hSw); go_simp; try with_reducible rfl)
      try simp only [Act.put, List.setIfInBounds_toArray, List.set_cons_zero, List.set_cons_succ]
      refine wpAnyH_ready (rs := [19]) (by kernel_rfl) (by simp) ?_
      refine AllReadyH.cons rfl (fun K hK => ?_) ?_
      ·go_simp
       refine hK.out _ _ ?_ (fun hHeld => ?_)
       ·((try dsimp only); go_keep)
       clear hK K
       try simp only [Act.put, List.setIfInBounds_toArray, List.set_cons_zero, List.set_cons_succ]
       refine wpAnyH_done (by kernel_rfl) ?_ _
       refine NoPanic.normal ?_
       go_wp2
       exact ⟨⟨k + 1, some ⟨g, 0, none⟩, cap, by omega, by go_num, R3.out, R1, R2.out⟩, by simp [intOf]; omega⟩
      exact AllReadyH.nil
     exact AllReadyH.nil
    exact AllReadyH.nil
   refine AllReadyH.cons rfl (fun K hK => ?_) ?_
   ·go_simp
    refine hK.out _ _ ?_ (fun hHeld => ?_)
    ·((try dsimp only); go_keep)
    clear hK K
    try simp only [Act.put, List.setIfInBounds_toArray, List.set_cons_zero, List.set_cons_succ]
    refine wpAnyH_ready (rs := [4]) (by kernel_rfl) (by simp) ?_
    refine AllReadyH.cons rfl (fun K hK => ?_) ?_
    ·go_simp
     refine hK.out _ _ ?_ (fun hHeld => ?_)
     ·((try dsimp only); go_keep)
     clear hK K
     try simp only [Act.put, List.setIfInBounds_toArray, List.set_cons_zero, List.set_cons_succ]
     refine wpAnyH_ready (rs := [16]) (by kernel_rfl) (by simp) ?_
     refine AllReadyH.cons rfl (fun K hK => ?_) ?_
     ·refine step_append_lies _ rfl _ _ 132 rfl w3.heap.size 138 i0 (.agg #[.int .i64 0, .int .i64 0, .string ⟨#[]⟩]) 3 32 Tryz.underlying132 hi hz0 hz1 hz2 rfl (by decide) (.slice ua k uc) k (flat V (s3.take k)) (by simp [Act.eval, Act.put]) (own_heap HOW.out ⟨rfl, rfl, rfl, rfl⟩) ⟨wr.heap.size + 1, 0, none⟩ 1 1 [.int .i64 x, .int .i64 y, .string (V ((zn : Int)))] (by simp [Act.eval, Act.put]) rfl (HNEW.out _ ⟨rfl, rfl, rfl, rfl⟩) (flat_one V x y zn) (by decide) H63.out HBY.out (HBS.out _ ⟨rfl, rfl, rfl, rfl⟩) _ rfl ?_
      intro g cap w4 hown4 hgrow4 hat4 hlt4
      obtain ⟨k0, k1, k2, k3, k4, k5, R3, R1, R2⟩ := KEEP.out _ _ g cap hown4 hgrow4 ⟨rfl, rfl, rfl, rfl⟩
      clear hown4 hgrow4 hat4
      refine hK.out _ _ ?_ (fun hHeld => ?_)
      ·((try dsimp only); go_keep)
      clear hK K
      try simp only [Act.put, List.setIfInBounds_toArray, List.set_cons_zero, List.set_cons_succ]
      refine wpAnyH_take (i := 17) (v := ?_) rfl (by kernel_rfl) (by kernel_rfl) (by kernel_rfl) (fun _ _ _ h => h) (Or.inl ⟨by rfl, ?_⟩) (by assumption) ?_
      rotate_left
      ·(intro w' hSw; (try dsimp only at hSw); go_simp; try with_reducible rfl)
      try simp only [Act.put, List.setIfInBounds_toArray, List.set_cons_zero, List.set_cons_succ]
      refine wpAnyH_take (i := 18) (v := ?_) rfl (by kernel_rfl) (by kernel_rfl) (by kernel_rfl) (fun _ _ _ h => h) (Or.inl ⟨by rfl, ?_⟩) (by assumption) ?_
      rotate_left
      ·(intro w' hSw; (try dsimp only at hSw); go_simp; try with_reducible rfl)
      try simp only [Act.put, List.setIfInBounds_toArray, List.set_cons_zero, List.set_cons_succ]
      refine wpAnyH_ready (rs := [19]) (by kernel_rfl) (by simp) ?_
      refine AllReadyH.cons rfl (fun K hK => ?_) ?_
      ·go_simp
       refine hK.out _ _ ?_ (fun hHeld => ?_)
       ·((try dsimp only); go_keep)
       clear hK K
       try simp only [Act.put, List.setIfInBounds_toArray, List.set_cons_zero, List.set_cons_succ]
       refine wpAnyH_done (by kernel_rfl) ?_ _
       refine NoPanic.normal ?_
       go_wp2
       exact ⟨⟨k + 1, some ⟨g, 0, none⟩, cap, by omega, by go_num, R3.out, R1, R2.out⟩, by simp [intOf]; omega⟩
      exact AllReadyH.nil
     exact AllReadyH.nil
    exact AllReadyH.nil
   exact AllReadyH.nil
  ·obtain rfl : k = m := by omega
   have HO' : Hid (Own wr w3.heap.size V (.slice ua k uc) s3) := by
    unfold Hid Own; rw [HL.out]; have := HO.out; rw [List.take_of_length_le (by rw [HL.out]; exact Nat.le_refl _)] at this; exact this
   have hc1 : wr.cell? ⟨w.heap.size, 1, none⟩ = some (.slice none 0 0) := (hmut.cell 1 (.inr (Nat.le_refl _))).trans y1
   have hfz1 : wr.frozen? ⟨w.heap.size, 1, none⟩ = false := frozen_mut hmut hts HF.out 1
   have HBW : Hid (Below w.heap.size w wr) := HB.out.trans (hmut.below (Nat.le_of_lt hts) (Nat.le_refl _))
   have HRV : Hid (RV wr V ua s3) := by
    obtain ⟨ao', cap', e, hv, _⟩ := HO'.out.view
    injection e with e1 e2 e3
    unfold Hid; rw [e1]; exact hv
   have HNE : Hid (∀ b, ua = some ⟨b, 0, none⟩ → b ≠ w.heap.size) := fun b e => by
    have := (HO.out.lt b (by rw [e]; rfl)).1; omega
   clear HO hmut hfz0 HO'
   rcases Nat.eq_zero_or_pos k with h0 | h0
   ·subst h0
    have C := starts_none uc ua wr
    go_wp2_with fail
    refine C.mono ?_
    rintro e w5 ⟨rfl, rfl⟩
    have T : Hid (TrieIs (w5.setCell ⟨w.heap.size, 1, none⟩ (.slice none 0 0)) V w.heap.size s3) := by
     refine ⟨⟨ua, uc, ?_, HRV.out.setOther HNE.out _⟩, fun h => by rw [HL.out] at h; omega⟩
     rw [HL.out]; exact (cell_set_ne _ _ _ _ _ (by decide)).trans hc0
    have R2 := HBW.out.setCell (p := ⟨w.heap.size, 1, none⟩) (Nat.le_refl _) (.slice none 0 0)
    clear C
    go_wp2
    go_ret
    exact ⟨_, _, rfl, T.out, HR.out, HT.out, R2⟩
   ·have C := starts_any vn V ua uc s3 wr HRV.out HR.out (by rw [HL.out]; exact h0)
    rw [HL.out] at C
    go_wp2_with fail
    refine C.mono ?_
    rintro e w5 ⟨b, rfl, hb, hrow, hbel⟩
    clear C
    have tlt : w.heap.size < wr.heap.size := World.block_lt_of_cell? wr _ hc0
    have d0 := (hbel.cell (p := ⟨w.heap.size, 0, none⟩) tlt).trans hc0
    have d1 := (hbel.cell (p := ⟨w.heap.size, 1, none⟩) tlt).trans hc1
    have d2 := (hbel.frozen (p := ⟨w.heap.size, 1, none⟩) tlt).trans hfz1
    have T : Hid (TrieIs (w5.setCell ⟨w.heap.size, 1, none⟩ (.slice (some ⟨b, 0, none⟩) 4353 4353)) V w.heap.size s3) := by
     refine ⟨⟨ua, uc, ?_, (HRV.out.below hbel).setOther HNE.out _⟩, fun h => ⟨b, cell_set_eq _ _ _ _ _ d1, fun j hj => ?_⟩⟩
     ·rw [HL.out]; exact (cell_set_ne _ _ _ _ _ (by decide)).trans d0
     ·exact (World.cell?_of_block (a := ⟨b, j, none⟩) (Below.heap_setCell _ _ _ _ (by simp only; omega))).trans (hrow.cell hj)
    have R2 := (HBW.out.trans (hbel.mono (Nat.le_of_lt tlt))).setCell (p := ⟨w.heap.size, 1, none⟩) (Nat.le_refl _) (.slice (some ⟨b, 0, none⟩) 4353 4353)
    clear hrow hbel hc0 hc1 hfz1 HRV HBW
    go_wp2
    go_ret
    exact ⟨_, _, rfl, T.out, HR.out, HT.out, R2⟩
end Go.Proofs.YtinlolmjafjhnaaGreatDoor.tri.str
end

section
/- What notAhead and Get of a trie of values of type string answer. -/
set_option linter.unusedVariables false
set_option linter.unusedSimpArgs false
namespace Go.Proofs.YtinlolmjafjhnaaGreatDoor.tri.str
open Go.RowKit Go.Proofs.YtinlolmjafjhnaaGreatDoor.tri
open Go.Proofs.YtinlolmjafjhnaaGreatDoor.rng (ret_int ret_bool below_drewN info_parts own_below')

set_option maxRecDepth 100000 in
set_option maxHeartbeats 4000000 in
theorem notAhead_any (nv : Int) (V : Int → ByteArray) (tb : Nat) (s : List E) (r : Int) (w : World) (ht : TrieIs w V tb s) (hr : Ris nv 0 s) (h0 : 0 < s.length) (hr0 : 0 ≤ r) (hr1 : r ≤ 1114111) :
  Calls Tryz.prog 170 #[.pointer (some ⟨tb, 0, none⟩), .int .i64 r] w fun e w' => e = .returned (.int .i64 (cntH s r)) ∧ Below w.heap.size w w' := by
 obtain ⟨⟨ra, rc, t0, hv⟩, h3⟩ := ht
 obtain ⟨sb, t1, hst⟩ := h3 h0
 obtain ⟨b, rfl, hc⟩ := hv.some h0
 have HC : Hid (∀ i p, s[i]? = some p → w.cell? ⟨b, i * 3, none⟩ = some (.int .i64 p.1) ∧ w.cell? ⟨b, i * 3 + 1, none⟩ = some (.int .i64 p.2.1) ∧ w.cell? ⟨b, i * 3 + 2, none⟩ = some (.string (V (p.2.2)))) := hc
 have HR : Hid (Ris nv 0 s) := hr
 obtain ⟨B, hB⟩ : ∃ B : Nat, r / 256 = (B : Int) := ⟨(r / 256).toNat, by omega⟩
 have s0 := hst B (by omega)
 have s1 := hst (B + 1) (by omega)
 have l0 : cntH s (256 * (B : Int)) ≤ cntH s r := cntH_mono (by omega)
 have l1 : cntH s r ≤ cntH s (256 * ((B + 1 : Nat) : Int)) := cntH_mono (by omega)
 have l2 := cntH_le s (256 * ((B + 1 : Nat) : Int))
 have hlen := ris_len hr
 obtain ⟨C, hC⟩ : ∃ C, cntH s r = C := ⟨_, rfl⟩
 have HG : Hid (∀ i p, s[i]? = some p → (p.2.1 < r ↔ i < C)) := fun i p hp => by rw [← hC]; exact cntH_get hr hp
 obtain ⟨F, hF⟩ : ∃ F, cntH s (256 * (B : Int)) = F := ⟨_, rfl⟩
 obtain ⟨U, hU⟩ : ∃ U, cntH s (256 * ((B + 1 : Nat) : Int)) = U := ⟨_, rfl⟩
 rw [hC] at l0 l1 ⊢
 rw [hF] at l0 s0
 rw [hU] at l1 l2 s1
 obtain ⟨n, hl⟩ : ∃ n, s.length = n := ⟨_, rfl⟩
 rw [hl] at l2 h0 hlen t0
 have HL : Hid (s.length = n) := hl
 have hb0 : (B : Int) < 4353 := by omega
 have hb1 : (B : Int) + 1 < 4353 := by omega
 have hb2 : (0 : Int) ≤ (B : Int) := by omega
 have hb3 : (0 : Int) ≤ (B : Int) + 1 := by omega
 have hb4 : IntKind.i64.wrap ((B : Int) + 1) = (B : Int) + 1 := by rw [IntKind.wrap_i64]; omega
 have hb5 : ((B : Int) + 1).toNat = B + 1 := by omega
 have hb6 : IntKind.i64.wrap (B : Int) = (B : Int) := by rw [IntKind.wrap_i64]; omega
 clear hst hc hv hr h3 hC hF hU hl
 go_enter Tryz.func170, Tryz.ntmps170
 go_wp2
 go_quiet (fail)
 go_wp2
 go_loopw [6, 7] (fun f t wr => ∃ (f' t' q : Nat), f = .int .i64 f' ∧ t = .int .i64 t' ∧ f' ≤ C ∧ C ≤ t' ∧ t' ≤ n ∧ wr = w.drewN q) (fun f t _ => (intOf t).toNat - (intOf f).toNat)
 case atStart => exact ⟨F, U, _, rfl, rfl, l0, l1, l2, rfl⟩
 case round =>
  obtain ⟨f, t, q, rfl, rfl, hf, ht, htn, rfl⟩ := hrel
  by_cases hft : f < t
  ·obtain ⟨M, hM⟩ : ∃ M, (f + t) / 2 = M := ⟨_, rfl⟩
   have hdiv : Int.tdiv ((f : Int) + (t : Int)) 2 = (M : Int) := by rw [Int.tdiv_eq_ediv_of_nonneg (by omega), ← hM]; omega
   have hM1 : f ≤ M := by omega
   have hM2 : M < t := by omega
   have hMn : (M : Int) < (n : Int) := by omega
   have hM0 : (0 : Int) ≤ (M : Int) := by omega
   obtain ⟨x, y, z, hp⟩ := get3 HL.out (show M < n by omega)
   obtain ⟨c1, c2, c3⟩ := HC.out M (x, y, z) hp
   simp only at c1 c2 c3
   have hg := HG.out M (x, y, z) hp
   simp only at hg
   clear hp hM
   by_cases hy : y < r
   ·have hgm := hg.1 hy
    clear hg
    go_wp2
    go_roundw
    case rel => exact ⟨M + 1, t, q, by go_num, rfl, by omega, ht, htn, rfl⟩
    case measure => simp [intOf]; omega
   ·have hgm : ¬ M < C := fun h => hy (hg.2 h)
    clear hg
    go_wp2
    go_roundw
    case rel => exact ⟨f, M, q, rfl, rfl, hf, by omega, by omega, rfl⟩
    case measure => simp [intOf]; omega
  ·obtain rfl : f = C := by omega
   go_wp2
   go_ret
   exact ⟨rfl, below_drewN (Below.refl _ _) _⟩

/-- What Get tells. -/
def told (V : Int → ByteArray) (o : Option Int) : Value := match o with | some v => .string (V (v)) | none => .string ⟨#[]⟩
set_option maxRecDepth 100000 in
set_option maxHeartbeats 4000000 in
theorem get_any (nv : Int) (V : Int → ByteArray) (tb : Nat) (s : List E) (r : Int) (w : World) (ht : TrieIs w V tb s) (hr : Ris nv 0 s) :
  Calls Tryz.prog 128 #[.pointer (some ⟨tb, 0, none⟩), .int .i64 r] w fun e w' => e = .returned (.tuple #[told V (at_ s r), .bool (at_ s r).isSome]) ∧ Below w.heap.size w w' := by
 have HT : Hid (TrieIs w V tb s) := ht
 obtain ⟨⟨ra, rc, t0, hv⟩, h3⟩ := ht
 have hlen := ris_len hr
 clear h3
 rcases Nat.eq_zero_or_pos s.length with h0 | h0
 ·obtain rfl : s = [] := List.eq_nil_of_length_eq_zero h0
  have t0' : w.cell? ⟨tb, 0, none⟩ = some (.slice ra 0 rc) := t0
  clear t0 hv hr hlen h0 HT
  go_enter Tryz.func128, Tryz.ntmps128
  go_wp2
  go_ret2
  exact ⟨rfl, Below.refl _ _⟩
 obtain ⟨b, rfl, hc⟩ := hv.some h0
 have NO : (r < 0 ∨ 1114111 < r) → at_ s r = none := fun h => by
  cases he : at_ s r with
  | none => rfl
  | some v => have := at_code hr (Int.le_refl 0) he; omega
 have hnn : ((s.length : Int) == 0) = false := beq_eq_false_iff_ne.2 (by omega)
 by_cases h1 : r < 0
 ·rw [NO (.inl h1)]
  clear HT hr NO hc hv
  generalize s.length = n at *
  go_enter Tryz.func128, Tryz.ntmps128
  go_wp2
  go_ret2
  exact ⟨rfl, Below.refl _ _⟩
 by_cases h2 : 1114111 < r
 ·rw [NO (.inr h2)]
  clear HT hr NO hc hv
  generalize s.length = n at *
  go_enter Tryz.func128, Tryz.ntmps128
  go_wp2
  go_ret2
  exact ⟨rfl, Below.refl _ _⟩
 have C := notAhead_any nv V tb s r w HT.out hr h0 (by omega) (by omega)
 have hcl := cntH_le s r
 obtain ⟨I, hI⟩ : ∃ I, cntH s r = I := ⟨_, rfl⟩
 have HAN : Hid (I = s.length → at_ s r = none) := fun h => at_none hr (hI.trans h)
 have HAH : Hid (∀ e, s[I]? = some e → at_ s r = if e.1 ≤ r then some e.2.2 else none) := fun e he => at_here hr (by rw [hI]; exact he)
 have HC : Hid (∀ i p, s[i]? = some p → w.cell? ⟨b, i * 3, none⟩ = some (.int .i64 p.1) ∧ w.cell? ⟨b, i * 3 + 1, none⟩ = some (.int .i64 p.2.1) ∧ w.cell? ⟨b, i * 3 + 2, none⟩ = some (.string (V (p.2.2)))) := hc
 obtain ⟨n, hl⟩ : ∃ n, s.length = n := ⟨_, rfl⟩
 rw [hl] at hcl HAN hlen h0 hnn t0
 have HL : Hid (s.length = n) := hl
 rw [hI] at C hcl
 clear HT hr NO hc hv hI hl
 have tlt : tb < w.heap.size := World.block_lt_of_cell? w _ t0
 by_cases hIn : I = n
 ·rw [HAN.out hIn]
  subst hIn
  have hii : ((I : Int) == (I : Int)) = true := by simp
  go_enter Tryz.func128, Tryz.ntmps128
  go_wp2_with fail
  refine C.mono ?_
  rintro e w1 ⟨rfl, hb⟩
  have t1 := (hb.cell (p := ⟨tb, 0, none⟩) tlt).trans t0
  clear C t0
  go_wp2
  go_ret2
  exact ⟨rfl, hb⟩
 ·obtain ⟨x, y, z, hp⟩ := get3 HL.out (show I < n by omega)
  obtain ⟨c1, c2, c3⟩ := HC.out I (x, y, z) hp
  simp only at c1 c2 c3
  have blt : b < w.heap.size := World.block_lt_of_cell? w _ c1
  have hat := HAH.out (x, y, z) hp
  simp only at hat
  have hii : ((I : Int) == (n : Int)) = false := beq_eq_false_iff_ne.2 (by omega)
  have hIn' : (I : Int) < (n : Int) := by omega
  have hI0 : (0 : Int) ≤ (I : Int) := by omega
  clear hp HAN HAH HC
  by_cases hx : x ≤ r
  ·rw [hat, if_pos hx]
   clear hat
   go_enter Tryz.func128, Tryz.ntmps128
   go_wp2_with fail
   refine C.mono ?_
   rintro e w1 ⟨rfl, hb⟩
   have t1 := (hb.cell (p := ⟨tb, 0, none⟩) tlt).trans t0
   have d1 := (hb.cell (p := ⟨b, I * 3, none⟩) blt).trans c1
   have d3 := (hb.cell (p := ⟨b, I * 3 + 2, none⟩) blt).trans c3
   clear C t0 c1 c2 c3
   go_wp2
   go_ret2
   exact ⟨rfl, hb⟩
  ·rw [hat, if_neg hx]
   clear hat
   go_enter Tryz.func128, Tryz.ntmps128
   go_wp2_with fail
   refine C.mono ?_
   rintro e w1 ⟨rfl, hb⟩
   have t1 := (hb.cell (p := ⟨tb, 0, none⟩) tlt).trans t0
   have d1 := (hb.cell (p := ⟨b, I * 3, none⟩) blt).trans c1
   clear C t0 c1 c2 c3
   go_wp2
   go_ret2
   exact ⟨rfl, hb⟩
end Go.Proofs.YtinlolmjafjhnaaGreatDoor.tri.str
end

section
/- Runs of values of type int in memory; what trie.startsOf answers: of each block how many runs end ahead of it. -/
set_option linter.unusedVariables false
set_option linter.unusedSimpArgs false
namespace Go.Proofs.YtinlolmjafjhnaaGreatDoor.tri.num
open Go.RowKit Go.Proofs.YtinlolmjafjhnaaGreatDoor.tri
open Go.Proofs.YtinlolmjafjhnaaGreatDoor.rng (ret_int ret_bool below_drewN info_parts own_below')

/-- The cells of runs; V: the value that stands at a place. -/
def flat (V : Int → Int) (l : List E) : List Value := l.flatMap fun p => [.int .i64 p.1, .int .i64 p.2.1, .int .i64 (V (p.2.2))]
theorem flat_cons (V : Int → Int) (p : E) (l : List E) : flat V (p :: l) = .int .i64 p.1 :: .int .i64 p.2.1 :: .int .i64 (V (p.2.2)) :: flat V l := rfl
theorem flat_append (V : Int → Int) (l r : List E) : flat V (l ++ r) = flat V l ++ flat V r := by simp [flat]
theorem flat_three (V : Int → Int) (x y z : Int) : flat V [(x, y, z)] = [.int .i64 x, .int .i64 y, .int .i64 (V (z))] := rfl
theorem flat_length (V : Int → Int) (l : List E) : (flat V l).length = l.length * 3 := by
 induction l with
 | nil => rfl
 | cons x l ih => rw [flat_cons]; simp; omega
theorem flat_get (V : Int → Int) : ∀ (l : List E) (i : Nat) (p : E), l[i]? = some p → (flat V l)[i * 3]? = some (.int .i64 p.1) ∧ (flat V l)[i * 3 + 1]? = some (.int .i64 p.2.1) ∧ (flat V l)[i * 3 + 2]? = some (.int .i64 (V (p.2.2)))
 | [], i, p, h => by simp at h
 | x :: l, 0, p, h => by simp at h; subst h; exact ⟨rfl, rfl, rfl⟩
 | x :: l, i + 1, p, h => by
  have := flat_get V l i p (by simpa using h)
  rw [flat_cons, show (i + 1) * 3 = i * 3 + 1 + 1 + 1 from by omega]
  simpa using this
/-- The runs l can be read from the address on. -/
def RV (w : World) (V : Int → Int) (ao : Option Addr) (l : List E) : Prop :=
 l = [] ∨ ∃ b, ao = some ⟨b, 0, none⟩ ∧ ∀ i p, l[i]? = some p → w.cell? ⟨b, i * 3, none⟩ = some (.int .i64 p.1) ∧ w.cell? ⟨b, i * 3 + 1, none⟩ = some (.int .i64 p.2.1) ∧ w.cell? ⟨b, i * 3 + 2, none⟩ = some (.int .i64 (V (p.2.2)))
theorem RV.below {w w' : World} {V : Int → Int} {ao : Option Addr} {l : List E} (h : RV w V ao l) (hb : Below w.heap.size w w') : RV w' V ao l := by
 rcases h with h | ⟨b, rfl, h⟩
 ·exact .inl h
 ·exact .inr ⟨b, rfl, fun i p hi => by
   obtain ⟨h1, h2, h3⟩ := h i p hi
   exact ⟨(hb.cell (World.block_lt_of_cell? w _ h1)).trans h1, (hb.cell (World.block_lt_of_cell? w _ h2)).trans h2, (hb.cell (World.block_lt_of_cell? w _ h3)).trans h3⟩⟩
theorem RV.some {w : World} {V : Int → Int} {ao : Option Addr} {l : List E} (h : RV w V ao l) (h0 : 0 < l.length) : ∃ b, ao = some ⟨b, 0, none⟩ ∧ ∀ i p, l[i]? = Option.some p → w.cell? ⟨b, i * 3, none⟩ = Option.some (.int .i64 p.1) ∧ w.cell? ⟨b, i * 3 + 1, none⟩ = Option.some (.int .i64 p.2.1) ∧ w.cell? ⟨b, i * 3 + 2, none⟩ = Option.some (.int .i64 (V (p.2.2))) := by
 rcases h with rfl | h
 ·simp at h0
 ·exact h
/-- v is a row of the call's own, of runs l. -/
def Own (w : World) (base : Nat) (V : Int → Int) (v : Value) (l : List E) : Prop := w.ownsRow base 144 3 v l.length (flat V l)
theorem Own.view {w : World} {B : Nat} {V : Int → Int} {v : Value} {l : List E} (h : Own w B V v l) : ∃ ao cap, v = .slice ao l.length cap ∧ RV w V ao l ∧ (ao = none → cap = 0) := by
 rcases h.2 with ⟨rfl, h0⟩ | ⟨g, cap, cur, rfl, hg, hgg, hc, hm, hs, ht⟩
 ·exact ⟨none, 0, by rw [h0], .inl (List.eq_nil_of_length_eq_zero h0), fun _ => rfl⟩
 ·refine ⟨_, cap, rfl, .inr ⟨g, rfl, fun i p hi => ?_⟩, fun e => by cases e⟩
  obtain ⟨e1, e2, e3⟩ := flat_get V l i p hi
  have hil : i < l.length := (List.getElem?_eq_some_iff.1 hi).1
  have h' : w.ownsRow B 144 3 (.slice (some ⟨g, 0, none⟩) l.length cap) l.length (flat V l) := h
  exact ⟨(h'.cellAt _ (by omega)).trans e1, (h'.cellAt _ (by omega)).trans e2, (h'.cellAt _ (by omega)).trans e3⟩

theorem infoInt : (Tryz.prog.info? 3).map (fun i => (i.zero, i.size, i.bytes)) = some (some (.int .i64 0), 1, 8) := by kernel_rfl
set_option maxRecDepth 100000 in
set_option maxHeartbeats 4000000 in
theorem starts_any (nv : Int) (V : Int → Int) (ao : Option Addr) (cap : Nat) (s : List E) (w : World) (hv : RV w V ao s) (hr : Ris nv 0 s) (h0 : 0 < s.length) :
  Calls Tryz.prog 84 #[.slice ao s.length cap] w fun e w' => ∃ b, e = .returned (.slice (some ⟨b, 0, none⟩) 4353 4353) ∧ w.heap.size ≤ b ∧ w'.rowIs b 3 4353 (fun j => .int .i64 (cntH s (256 * (j : Int)))) ∧ Below w.heap.size w w' := by
 have hmk := run_make_row' (P := Tryz.prog) 37 3 (.int .i64 0) 8 Tryz.underlying37 infoInt rfl .i64 .i64 4353 (by decide) (by decide) w
 have hrow := World.rowIs_made w (.int .i64 0) 4353 3
 have hb1 := (Below.refl w.heap.size w).alloc (Nat.le_refl _) (.cells (madeCells #[.int .i64 0] 4353) 3)
 have hsz : (w.alloc (.cells (madeCells #[.int .i64 0] 4353) 3)).heap.size = w.heap.size + 1 := by simp
 generalize w.alloc (.cells (madeCells #[.int .i64 0] 4353) 3) = w1 at hmk hrow hb1 hsz
 have e4 : ((4353 : Nat) : Int) = 4353 := rfl
 rw [e4] at hmk
 have HROW : Hid (w1.rowIs w.heap.size 3 4353 (fun _ => .int .i64 0)) := hrow
 have HV : Hid (RV w V ao s) := hv
 have HR : Hid (Ris nv 0 s) := hr
 have hlen := ris_len hr
 obtain ⟨n, hl⟩ : ∃ n, s.length = n := ⟨_, rfl⟩
 rw [hl] at h0 hlen ⊢
 have HL : Hid (s.length = n) := hl
 have hn0 : ((n : Int) == 0) = false := by simp; omega
 clear hv hr hl hrow e4
 go_enter Tryz.func84, Tryz.ntmps84
 go_wp2
 go_loopw [4, 12] (fun ed i wr => ∃ (k e : Nat) (f : Nat → Value), k ≤ 4353 ∧ i = .int .i64 k ∧ ed = .int .i64 e ∧ e ≤ n ∧ Hid (e ≤ cntH s (256 * (k : Int))) ∧ Hid (∀ j, j < k → f j = .int .i64 (cntH s (256 * (j : Int)))) ∧ Hid (wr.rowIs w.heap.size 3 4353 f) ∧ Below w.heap.size w wr) (fun _ i _ => 4353 - (intOf i).toNat)
 case atStart => exact ⟨0, 0, _, Nat.zero_le _, rfl, rfl, Nat.zero_le _, Nat.zero_le _, fun j hj => by omega, HROW, hb1⟩
 case round =>
  obtain ⟨k, e, f, hk, rfl, rfl, hen, HE, HFk, HRW, hbel⟩ := hrel
  clear hmk HROW hb1 hsz
  by_cases hlt : k < 4353
  ·have hklt : (k : Int) < 4353 := by omega
   have hk0 : (0 : Int) ≤ k := by omega
   have hshl : ((k : Int) <<< (8 : Nat)) = 256 * (k : Int) := by rw [Int.shiftLeft_eq]; omega
   have hcell := HRW.out.cell hlt
   have hfrz := HRW.out.frozen k
   generalize wr = w3 at *
   go_wp2
   go_loopw [4] (fun ed wr => ∃ (e : Nat), ed = .int .i64 e ∧ e ≤ n ∧ Hid (e ≤ cntH s (256 * (k : Int))) ∧ wr = w3) (fun ed _ => n - (intOf ed).toNat)
   case atStart => exact ⟨e, rfl, hen, HE, rfl⟩
   case round =>
    obtain ⟨e, rfl, hen, HE, rfl⟩ := hrel
    have FIN : Hid (cntH s (256 * (k : Int)) ≤ e → (∀ j, j < k + 1 → (fun j => if j = k then Value.int .i64 (e : Int) else f j) j = .int .i64 (cntH s (256 * (j : Int)))) ∧ e ≤ cntH s (256 * ((k + 1 : Nat) : Int))) := fun hle => by
     have hee : e = cntH s (256 * (k : Int)) := Nat.le_antisymm HE.out hle
     refine ⟨fun j hj => ?_, ?_⟩
     ·by_cases hjk : j = k
      ·subst hjk; simp only [if_true]; rw [hee]
      ·simp only [if_neg hjk]; exact HFk.out j (by omega)
     ·rw [hee]; exact cntH_mono (by omega)
    have RS : Hid ((wr.setCell ⟨w.heap.size, k, none⟩ (.int .i64 (e : Int))).rowIs w.heap.size 3 4353 (fun j => if j = k then Value.int .i64 (e : Int) else f j)) := HRW.out.set k _
    have R2 := hbel.setCell (p := ⟨w.heap.size, k, none⟩) (Nat.le_refl _) (.int .i64 (e : Int))
    by_cases hen2 : e < n
    ·obtain ⟨x, y, z, hp⟩ := get3 HL.out hen2
     obtain ⟨b, rfl, hc⟩ := (HV.out.below hbel).some (by have := HL.out; omega)
     obtain ⟨c1, c2, c3⟩ := hc e (x, y, z) hp
     simp only at c1 c2 c3
     have HG := cntH_get (x := 256 * (k : Int)) HR.out hp
     simp only at HG
     by_cases ht : y < 256 * (k : Int)
     ·have HE2 : Hid (e + 1 ≤ cntH s (256 * (k : Int))) := HG.1 ht
      clear FIN RS R2 hc hp HG
      go_wp2
      go_roundw
      case rel => exact ⟨e + 1, by go_num, by omega, HE2, by first | trivial | rfl⟩
      case measure => simp [intOf]; omega
     ·have FF := FIN.out (Nat.le_of_not_lt fun h => ht (HG.2 h))
      have HF1 : Hid (∀ j, j < k + 1 → (fun j => if j = k then Value.int .i64 (e : Int) else f j) j = .int .i64 (cntH s (256 * (j : Int)))) := FF.1
      have HF2 : Hid (e ≤ cntH s (256 * ((k + 1 : Nat) : Int))) := FF.2
      clear FIN FF hc hp HG
      go_wp2
      go_roundw
      case rel => exact ⟨k + 1, e, _, by omega, by go_num, rfl, hen, HF2, HF1, RS, R2⟩
      case measure => simp [intOf]; omega
    ·have FF := FIN.out (by have := cntH_le s (256 * (k : Int)); have := HL.out; omega)
     have HF1 : Hid (∀ j, j < k + 1 → (fun j => if j = k then Value.int .i64 (e : Int) else f j) j = .int .i64 (cntH s (256 * (j : Int)))) := FF.1
     have HF2 : Hid (e ≤ cntH s (256 * ((k + 1 : Nat) : Int))) := FF.2
     clear FIN FF
     go_wp2
     go_roundw
     case rel => exact ⟨k + 1, e, _, by omega, by go_num, rfl, hen, HF2, HF1, RS, R2⟩
     case measure => simp [intOf]; omega
  ·go_wp2
   go_ret
   exact ⟨_, rfl, Nat.le_refl _, HRW.out.congr (fun j hj => HFk.out j (by omega)), hbel⟩
set_option maxHeartbeats 400000 in
theorem starts_none (cap : Nat) (ao : Option Addr) (w : World) :
  Calls Tryz.prog 84 #[.slice ao 0 cap] w fun e w' => e = .returned (.slice none 0 0) ∧ w' = w := by
 go_enter Tryz.func84, Tryz.ntmps84
 go_wp2
 go_ret
 exact ⟨rfl, rfl⟩
/-- The values: V tells which one stands at a place. -/
def Vals (w : World) (V : Int → Int) (va : Option Addr) (n : Nat) : Prop := n = 0 ∨ ∃ b off, va = some ⟨b, off, none⟩ ∧ ∀ i : Nat, i < n → w.cell? ⟨b, off + i, none⟩ = some (.int .i64 (V ((i : Int))))
/-- In block tb lies a trie of the runs s. -/
structure TrieIs (w : World) (V : Int → Int) (tb : Nat) (s : List E) : Prop where
 runs : ∃ ra rc, w.cell? ⟨tb, 0, none⟩ = some (.slice ra s.length rc) ∧ RV w V ra s
 starts : 0 < s.length → ∃ sb, w.cell? ⟨tb, 1, none⟩ = some (.slice (some ⟨sb, 0, none⟩) 4353 4353) ∧ ∀ j, j < 4353 → w.cell? ⟨sb, j, none⟩ = some (.int .i64 (cntH s (256 * (j : Int))))
theorem TrieIs.below {w w' : World} {V : Int → Int} {tb : Nat} {s : List E} (h : TrieIs w V tb s) (hb : Below w.heap.size w w') : TrieIs w' V tb s := by
 obtain ⟨⟨ra, rc, h1, h2⟩, h3⟩ := h
 refine ⟨⟨ra, rc, (hb.cell (World.block_lt_of_cell? w _ h1)).trans h1, h2.below hb⟩, fun h0 => ?_⟩
 obtain ⟨sb, h4, h5⟩ := h3 h0
 exact ⟨sb, (hb.cell (World.block_lt_of_cell? w _ h4)).trans h4, fun j hj => (hb.cell (World.block_lt_of_cell? w _ (h5 j hj))).trans (h5 j hj)⟩
end Go.Proofs.YtinlolmjafjhnaaGreatDoor.tri.num
end
