/- Texts that the proof leans on, one behind the other. -/
import Derived.Test.YtinlolmjafjhnaaGreatDoorBdTri4
import Derived.Deep.RegionHeld3
import Derived.Deep.AppendLies
import Derived.Test.YtinlolmjafjhnaaGreatDoorBdRng2
import Derived.Recover

section
/- What trie.Build answers, at values of type int: a trie that tells of each code point the value of the last entry with it. -/
set_option linter.unusedVariables false
set_option linter.unusedSimpArgs false
namespace Go.Proofs.YtinlolmjafjhnaaGreatDoor.tri.num
open Go.RowKit Go.Proofs.YtinlolmjafjhnaaGreatDoor.tri
open Go.Proofs.YtinlolmjafjhnaaGreatDoor.rng (ret_int ret_bool below_drewN info_parts own_below')

theorem infoRun : (Tryz.prog.info? 144).map (fun i => (i.zero, i.size, i.bytes)) = some (some (.agg #[.int .i64 0, .int .i64 0, .int .i64 0]), 3, 24) := by kernel_rfl
theorem RV.setOther {w : World} {V : Int → Int} {ao : Option Addr} {l : List E} (h : RV w V ao l) {tb i : Nat} (hne : ∀ b, ao = Option.some ⟨b, 0, none⟩ → b ≠ tb) (u : Value) : RV (w.setCell ⟨tb, i, none⟩ u) V ao l := by
 rcases h with h | ⟨b, rfl, h⟩
 ·exact .inl h
 ·have hb := Below.heap_setCell w ⟨tb, i, none⟩ u b (hne b rfl)
  exact .inr ⟨b, rfl, fun i p hi => by
   obtain ⟨h1, h2, h3⟩ := h i p hi
   exact ⟨(World.cell?_of_block (a := ⟨b, _, none⟩) hb).trans h1, (World.cell?_of_block (a := ⟨b, _, none⟩) hb).trans h2, (World.cell?_of_block (a := ⟨b, _, none⟩) hb).trans h3⟩⟩
theorem flat_one (V : Int → Int) (x y z : Int) : ∀ u ∈ [Value.int .i64 x, Value.int .i64 y, .int .i64 (V (z))], u.oneCell' = true := by
 intro u hu
 simp only [List.mem_cons, List.mem_nil_iff, or_false] at hu
 rcases hu with rfl | rfl | rfl <;> rfl

set_option maxRecDepth 100000 in
set_option maxHeartbeats 8000000 in
theorem build_any (V : Int → Int) (ao va : Option Addr) (cap vn vcap : Nat) (l : List E) (w : World) (hn : l.length ≤ 1000000) (hv : EV w ao l) (hvs : Vals w V va vn) :
  Calls Tryz.prog 57 #[.slice ao l.length cap, .slice va vn vcap] w fun e w' => ∃ tb s, e = .returned (.pointer (some ⟨tb, 0, none⟩)) ∧ TrieIs w' V tb s ∧ Ris vn 0 s ∧ (∀ x, at_ s x = last (use vn l) x) ∧ Below w.heap.size w w' := by
 obtain ⟨i0, hi, hz0, hz1, hz2⟩ := info_parts infoRun
 have B0 := (Below.refl w.heap.size w).alloc (Nat.le_refl _) (.cells #[.slice none 0 0, .slice none 0 0] 142)
 have C := use_any ao cap l vn (w.alloc (.cells #[.slice none 0 0, .slice none 0 0] 142)) hn (hv.below B0)
 have HVS : Hid (Vals w V va vn) := hvs
 have z0 : (w.alloc (.cells #[.slice none 0 0, .slice none 0 0] 142)).cell? ⟨w.heap.size, 0, none⟩ = some (.slice none 0 0) := by simp
 have z1 : (w.alloc (.cells #[.slice none 0 0, .slice none 0 0] 142)).cell? ⟨w.heap.size, 1, none⟩ = some (.slice none 0 0) := by simp
 have zf : ∀ i, (w.alloc (.cells #[.slice none 0 0, .slice none 0 0] 142)).frozen? ⟨w.heap.size, i, none⟩ = false := fun i => by simp
 have zs : (w.alloc (.cells #[.slice none 0 0, .slice none 0 0] 142)).heap.size = w.heap.size + 1 := by simp
 have hul := use_length (vn : Int) l
 have HUM : Hid (∀ e ∈ use vn l, good vn e = true ∧ 0 ≤ e.1 ∧ e.2.1 ≤ 1114111) := fun e he => use_mem e he
 clear hv hvs
 generalize l.length = ln at *
 go_enter Tryz.func57, Tryz.ntmps57
 go_wp2_with fail
 generalize hw0 : w.alloc (.cells #[.slice none 0 0, .slice none 0 0] 142) = w0 at *
 clear hw0
 refine C.mono ?_
 rintro e w1 ⟨g, c, rfl, ho, b1⟩
 clear C
 obtain ⟨q1, q2, q3, q4⟩ := ho.at
 obtain ⟨hcap1, hcap2⟩ : (use (vn : Int) l).length ≤ c ∧ c ≤ 9223372036854775807 := by
  rcases ho.2 with ⟨h0, _⟩ | ⟨g', c', cur, hv', _, _, h1, h2, _⟩
  ·cases h0
  ·cases hv'; unfold maxLen at h2; exact ⟨h1, by omega⟩
 have D := settled_any vn _ g 0 c (use vn l) w1 rfl (by omega) hcap1 hcap2 q1 q3 q4 HUM.out
 clear ho q1 q4 hcap1 hcap2
 generalize (use (vn : Int) l).length = un at *
 go_wp2_with fail
 refine D.mono ?_
 rintro e w2 ⟨b, o, k, c2, s, rfl, r⟩
 clear D
 have b2 : Below w0.heap.size w1 w2 := r.chg.below b1.size q2
 have D := joined_any vn (some ⟨b, o, none⟩) c2 s w2 (by have := ris_len r.ris; omega) (.inr ⟨b, o, rfl, r.row⟩) r.ris
 rw [r.len] at D
 have HT0 : Hid (∀ x, at_ s x = last (use vn l) x) := r.tells
 clear r
 go_wp2_with fail
 refine D.mono ?_
 rintro e w3 ⟨v3, s3, rfl, o3, hr3, ht3, b3⟩
 clear D
 have b13 := b1.trans (b2.trans (b3.mono (by have := b1.size; have := b2.size; omega)))
 have HT : Hid (∀ x, at_ s3 x = last (use vn l) x) := fun x => (ht3 x).trans (HT0.out x)
 have HR : Hid (Ris vn 0 s3) := hr3
 obtain ⟨a3, c3, rfl, hv3, _, _, _⟩ := tri.Own.view o3
 have HV : Hid (s3 = [] ∨ ∃ b off, a3 = some ⟨b, off, none⟩ ∧ w.heap.size ≠ b ∧ EAt w3 b off s3) := by
  rcases hv3 with h | ⟨b, off, rfl, h⟩
  ·exact .inl h
  ·refine .inr ⟨b, off, rfl, ?_, h⟩
   have := (World.ownsRow.lt o3 b rfl).1; have := b1.size; have := b2.size; omega
 have hm3 := ris_len hr3
 obtain ⟨m, hl⟩ : ∃ m, s3.length = m := ⟨_, rfl⟩
 rw [hl] at hm3 ⊢
 have HL : Hid (s3.length = m) := hl
 have y0 := (b13.cell (p := ⟨w.heap.size, 0, none⟩) (by rw [zs]; exact Nat.lt_succ_self _)).trans z0
 have y1 := (b13.cell (p := ⟨w.heap.size, 1, none⟩) (by rw [zs]; exact Nat.lt_succ_self _)).trans z1
 have HF : Hid (∀ i, w3.frozen? ⟨w.heap.size, i, none⟩ = false) := fun i => (b13.frozen (p := ⟨w.heap.size, i, none⟩) (by rw [zs]; exact Nat.lt_succ_self _)).trans (zf i)
 have HB : Hid (Below w.heap.size w w3) := B0.trans (b13.mono (by rw [zs]; omega))
 have hts : w.heap.size < w3.heap.size := by have := b13.size; omega
 clear z0 z1 zf zs b13 b1 b2 b3 B0 o3 hv3 hr3 ht3 hl HT0 q2 q3 HUM hul
 go_wp2
 go_loopw [17] (fun i wr => ∃ (k : Nat) (ua : Option Addr) (uc : Nat), k ≤ m ∧ i = .int .i64 k ∧ wr.cell? ⟨w.heap.size, 0, none⟩ = some (.slice ua k uc) ∧ Hid (wr.ownsRow w3.heap.size 144 3 (.slice ua k uc) k (flat V (s3.take k))) ∧ Mut w3 wr w.heap.size 0 1) (fun i _ => m - (intOf i).toNat)
 case atStart => exact ⟨0, none, 0, Nat.zero_le _, rfl, y0, World.ownsRow_nil _ _ _ _, Mut.refl _ _ _ _⟩
 case round =>
  obtain ⟨k, ua, uc, hk, rfl, hc0, HO, hmut⟩ := hrel
  clear y0
  have hs1 := hmut.size
  have hfz0 : wr.frozen? ⟨w.heap.size, 0, none⟩ = false := frozen_mut hmut hts HF.out 0
  by_cases hlt : k < m
  ·obtain ⟨x, y, z, hp⟩ := get3 HL.out hlt
   obtain ⟨b, off, rfl, hbt, hc⟩ : ∃ b off, a3 = some ⟨b, off, none⟩ ∧ w.heap.size ≠ b ∧ EAt w3 b off s3 := by
    rcases HV.out with h | h
    ·rw [h] at hp; simp at hp
    ·exact h
   obtain ⟨c1, c2, c3⟩ := (hc.mut hmut (.inl (Ne.symm hbt))) k (x, y, z) hp
   simp only at c1 c2 c3
   obtain ⟨_, _, _, hz0', hzn'⟩ := ris_mem HR.out (x, y, z) (List.mem_of_getElem? hp)
   simp only at hz0' hzn'
   obtain ⟨zn, rfl⟩ : ∃ zn : Nat, z = (zn : Int) := ⟨z.toNat, by omega⟩
   have hzn : zn < vn := by omega
   obtain ⟨vb, voff, rfl, hvc⟩ : ∃ b off, va = some ⟨b, off, none⟩ ∧ ∀ i : Nat, i < vn → w.cell? ⟨b, off + i, none⟩ = some (.int .i64 (V ((i : Int)))) := by
    rcases HVS.out with h | h
    ·omega
    ·exact h
   have vlt : vb < w.heap.size := World.block_lt_of_cell? w _ (hvc zn hzn)
   have cv : wr.cell? ⟨vb, voff + zn, none⟩ = some (.int .i64 (V ((zn : Int)))) := hmut.other ((HB.out.cell (p := ⟨vb, voff + zn, none⟩) vlt).trans (hvc zn hzn)) (by omega)
   have HTK : Hid (s3.take (k + 1) = s3.take k ++ [(x, y, (zn : Int))]) := takeX hp
   have HWB : Hid (∀ j, (Value.slice ua k uc).ownBlock = some j → w3.heap.size ≤ j) := fun j e => (HO.out.lt _ e).1
   have HWL : Hid (∀ j, (Value.slice ua k uc).ownBlock = some j → j < wr.heap.size) := fun j e => (HO.out.lt _ e).2
   have KEEP : Hid (∀ (W W' : World) (g cap : Nat), W'.ownsRow w3.heap.size 144 3 (.slice (some ⟨g, 0, none⟩) (k + 1) cap) (k + 1) (flat V (s3.take k) ++ [.int .i64 x, .int .i64 y, .int .i64 (V ((zn : Int)))]) → W.grownBy W' (Value.slice ua k uc).ownBlock →
     Alike ((wr.alloc (.cells #[.int .i64 x, .int .i64 y, .int .i64 (zn : Int)] 95)).alloc (.cells #[.int .i64 x, .int .i64 y, .int .i64 (V ((zn : Int)))] 144)) W →
     W'.cell? ⟨wr.heap.size, 0, none⟩ = some (.int .i64 x) ∧ W'.cell? ⟨wr.heap.size, 1, none⟩ = some (.int .i64 y) ∧ W'.cell? ⟨wr.heap.size, 2, none⟩ = some (.int .i64 (zn : Int)) ∧ W'.cell? ⟨vb, voff + zn, none⟩ = some (.int .i64 (V ((zn : Int)))) ∧ W'.cell? ⟨w.heap.size, 0, none⟩ = some (.slice ua k uc) ∧ W'.frozen? ⟨w.heap.size, 0, none⟩ = false ∧
     Hid ((W'.setCell ⟨w.heap.size, 0, none⟩ (.slice (some ⟨g, 0, none⟩) (k + 1) cap)).cell? ⟨w.heap.size, 0, none⟩ = some (.slice (some ⟨g, 0, none⟩) (k + 1) cap)) ∧
     Hid ((W'.setCell ⟨w.heap.size, 0, none⟩ (.slice (some ⟨g, 0, none⟩) (k + 1) cap)).ownsRow w3.heap.size 144 3 (.slice (some ⟨g, 0, none⟩) (k + 1) cap) (k + 1) (flat V (s3.take (k + 1)))) ∧
     Hid (Mut w3 (W'.setCell ⟨w.heap.size, 0, none⟩ (.slice (some ⟨g, 0, none⟩) (k + 1) cap)) w.heap.size 0 1)) := fun W W' g cap how hgr al => by
    have hX := (hmut.alloc hts (.cells #[.int .i64 x, .int .i64 y, .int .i64 (zn : Int)] 95)).alloc hts (.cells #[.int .i64 x, .int .i64 y, .int .i64 (V ((zn : Int)))] 144)
    have hM := (hX.alike al).grown hts hgr HWB.out
    have nbx : some wr.heap.size ≠ (Value.slice ua k uc).ownBlock := fun e => by have := HWL.out _ e.symm; omega
    have nvb : some vb ≠ (Value.slice ua k uc).ownBlock := fun e => by have := HWB.out _ e.symm; omega
    have ntb : some w.heap.size ≠ (Value.slice ua k uc).ownBlock := fun e => by have := HWB.out _ e.symm; omega
    have t0 : W'.cell? ⟨w.heap.size, 0, none⟩ = some (.slice ua k uc) := hgr.cell (cell_alike (past1 (past1 hc0 _) _) al) ntb
    refine ⟨hgr.cell (cell_alike (past1 (by simp) _) al) nbx, hgr.cell (cell_alike (past1 (by simp) _) al) nbx, hgr.cell (cell_alike (past1 (by simp) _) al) nbx, hgr.cell (cell_alike (past1 (past1 cv _) _) al) nvb, t0, frozen_mut hM hts HF.out 0, cell_set_eq _ _ _ _ _ t0, ?_, hM.setCell (Nat.le_refl _) (by omega) _⟩
    unfold Hid; rw [HTK.out, flat_append, flat_three]
    exact ownsRow_setCell_below how hts _
   have HOW : Hid (((wr.alloc (.cells #[.int .i64 x, .int .i64 y, .int .i64 (zn : Int)] 95)).alloc (.cells #[.int .i64 x, .int .i64 y, .int .i64 (V ((zn : Int)))] 144)).ownsRow w3.heap.size 144 3 (.slice ua k uc) k (flat V (s3.take k))) := (HO.out.alloc _).alloc _
   have HNEW : Hid (∀ W, Alike ((wr.alloc (.cells #[.int .i64 x, .int .i64 y, .int .i64 (zn : Int)] 95)).alloc (.cells #[.int .i64 x, .int .i64 y, .int .i64 (V ((zn : Int)))] 144)) W → ∀ (j : Nat) u, [Value.int .i64 x, .int .i64 y, .int .i64 (V ((zn : Int)))][j]? = some u → W.cell? ((⟨wr.heap.size + 1, 0, none⟩ : Addr).add j) = some u) := fun W al j u hj => cell_alike (two_new wr _ _ _ _ _ j u hj) al
   have HBS : Hid (∀ W : World, Alike ((wr.alloc (.cells #[.int .i64 x, .int .i64 y, .int .i64 (zn : Int)] 95)).alloc (.cells #[.int .i64 x, .int .i64 y, .int .i64 (V ((zn : Int)))] 144)) W → w3.heap.size ≤ W.heap.size) := fun W al => by rw [al.heap]; simp; omega
   have H63 : Hid (k + 1 ≤ maxLen) := by unfold Hid maxLen; omega
   have HBY : Hid ((k + 1) * 24 ≤ 140737488355328) := by unfold Hid; omega
   have hz0i : (0 : Int) ≤ (zn : Int) := by omega
   have hzni : (zn : Int) < (vn : Int) := by omega
   have ne1 : ¬ w.heap.size = wr.heap.size := by omega
   have ne2 : ¬ wr.heap.size = w.heap.size := by omega
   have ne3 : ¬ w.heap.size = vb := by omega
   have ne4 : ¬ vb = w.heap.size := by omega
   have lt1 : w.heap.size < wr.heap.size := by omega
   have lt2 : vb < wr.heap.size := by omega
   clear hc hp HO hmut hbt hvc hz0' hzn'
   go_wp2
   refine wp_region_noPanic ?_
   refine wp_region_held_drew (S := (fun w' => w'.cell? ⟨wr.heap.size, 0, none⟩ = some (.int .i64 x) ∧ w'.cell? ⟨wr.heap.size, 1, none⟩ = some (.int .i64 y) ∧ w'.cell? ⟨wr.heap.size, 2, none⟩ = some (.int .i64 (zn : Int)) ∧ w'.cell? ⟨vb, voff + zn, none⟩ = some (.int .i64 (V ((zn : Int)))))) (by kernel_rfl) ?_ (fun hHeld => ?_)
   ·((try dsimp only); go_keep)
   refine wpAnyH_take (i := 0) (v := ?_) rfl (by kernel_rfl) (by kernel_rfl) (by kernel_rfl) (fun _ _ _ h => h) (Or.inl ⟨by rfl, ?_⟩) (by assumption) ?_
   rotate_left
   ·(intro w' hSw; (try dsimp only at hSw); go_simp; try with_reducible rfl)
   try simp only [Act.put, List.setIfInBounds_toArray, List.set_cons_zero, List.set_cons_succ]
   refine wpAnyH_take (i := 1) (v := ?_) rfl (by kernel_rfl) (by kernel_rfl) (by kernel_rfl) (fun _ _ _ h => h) (Or.inl ⟨by rfl, ?_⟩) (by assumption) ?_
   rotate_left
   ·(intro w' hSw; (try dsimp only at hSw); go_simp; try with_reducible rfl)
   try simp only [Act.put, List.setIfInBounds_toArray, List.set_cons_zero, List.set_cons_succ]
   refine wpAnyH_take (i := 2) (v := ?_) rfl (by kernel_rfl) (by kernel_rfl) (by kernel_rfl) (fun _ _ _ h => h) (Or.inl ⟨by rfl, ?_⟩) (by assumption) ?_
   rotate_left
   ·(intro w' hSw; (try dsimp only at hSw); go_simp; try with_reducible rfl)
   try simp only [Act.put, List.setIfInBounds_toArray, List.set_cons_zero, List.set_cons_succ]
   refine wpAnyH_take (i := 3) (v := ?_) rfl (by kernel_rfl) (by kernel_rfl) (by kernel_rfl) (fun _ _ _ h => h) (Or.inl ⟨by rfl, ?_⟩) (by assumption) ?_
   rotate_left
   ·(intro w' hSw; (try dsimp only at hSw); go_simp; try with_reducible rfl)
   try simp only [Act.put, List.setIfInBounds_toArray, List.set_cons_zero, List.set_cons_succ]
   refine wpAnyH_take (i := 5) (v := ?_) rfl (by kernel_rfl) (by kernel_rfl) (by kernel_rfl) (fun _ _ _ h => h) (Or.inl ⟨by rfl, ?_⟩) (by assumption) ?_
   rotate_left
   ·(intro w' hSw; (try dsimp only at hSw); go_simp; try with_reducible rfl)
   try simp only [Act.put, List.setIfInBounds_toArray, List.set_cons_zero, List.set_cons_succ]
   refine wpAnyH_take (i := 6) (v := ?_) rfl (by kernel_rfl) (by kernel_rfl) (by kernel_rfl) (fun _ _ _ h => h) (Or.inl ⟨by rfl, ?_⟩) (by assumption) ?_
   rotate_left
   ·(intro w' hSw; (try dsimp only at hSw); go_simp; try with_reducible rfl)
   try simp only [Act.put, List.setIfInBounds_toArray, List.set_cons_zero, List.set_cons_succ]
   refine wpAnyH_take (i := 7) (v := ?_) rfl (by kernel_rfl) (by kernel_rfl) (by kernel_rfl) (fun _ _ _ h => h) (Or.inl ⟨by rfl, ?_⟩) (by assumption) ?_
   rotate_left
   ·(intro w' hSw; (try dsimp only at hSw); go_simp; try with_reducible rfl)
   try simp only [Act.put, List.setIfInBounds_toArray, List.set_cons_zero, List.set_cons_succ]
   refine wpAnyH_take (i := 8) (v := ?_) rfl (by kernel_rfl) (by kernel_rfl) (by kernel_rfl) (fun _ _ _ h => h) (Or.inl ⟨by rfl, ?_⟩) (by assumption) ?_
   rotate_left
   ·(intro w' hSw; (try dsimp only at hSw); go_simp; try with_reducible rfl)
   try simp only [Act.put, List.setIfInBounds_toArray, List.set_cons_zero, List.set_cons_succ]
   refine wpAnyH_take (i := 9) (v := ?_) rfl (by kernel_rfl) (by kernel_rfl) (by kernel_rfl) (fun _ _ _ h => h) (Or.inl ⟨by rfl, ?_⟩) (by assumption) ?_
   rotate_left
   ·(intro w' hSw; (try dsimp only at hSw); go_simp; try with_reducible rfl)
   try simp only [Act.put, List.setIfInBounds_toArray, List.set_cons_zero, List.set_cons_succ]
   refine wpAnyH_take (i := 10) (v := ?_) rfl (by kernel_rfl) (by kernel_rfl) (by kernel_rfl) (fun _ _ _ h => h) (Or.inl ⟨by rfl, ?_⟩) (by assumption) ?_
   rotate_left
   ·(intro w' hSw; (try dsimp only at hSw); go_simp; try with_reducible rfl)
   try simp only [Act.put, List.setIfInBounds_toArray, List.set_cons_zero, List.set_cons_succ]
   refine wpAnyH_take (i := 11) (v := ?_) rfl (by kernel_rfl) (by kernel_rfl) (by kernel_rfl) (fun _ _ _ h => h) (Or.inl ⟨by rfl, ?_⟩) (by assumption) ?_
   rotate_left
   ·(intro w' hSw; (try dsimp only at hSw); go_simp; try with_reducible rfl)
   try simp only [Act.put, List.setIfInBounds_toArray, List.set_cons_zero, List.set_cons_succ]
   refine wpAnyH_take (i := 12) (v := ?_) rfl (by kernel_rfl) (by kernel_rfl) (by kernel_rfl) (fun _ _ _ h => h) (Or.inl ⟨by rfl, ?_⟩) (by assumption) ?_
   rotate_left
   ·(intro w' hSw; (try dsimp only at hSw); go_simp; try with_reducible rfl)
   try simp only [Act.put, List.setIfInBounds_toArray, List.set_cons_zero, List.set_cons_succ]
   refine wpAnyH_take (i := 13) (v := ?_) rfl (by kernel_rfl) (by kernel_rfl) (by kernel_rfl) (fun _ _ _ h => h) (Or.inl ⟨by rfl, ?_⟩) (by assumption) ?_
   rotate_left
   ·(intro w' hSw; (try dsimp only at hSw); go_simp; try with_reducible rfl)
   try simp only [Act.put, List.setIfInBounds_toArray, List.set_cons_zero, List.set_cons_succ]
   refine wpAnyH_take (i := 14) (v := ?_) rfl (by kernel_rfl) (by kernel_rfl) (by kernel_rfl) (fun _ _ _ h => h) (Or.inl ⟨by rfl, ?_⟩) (by assumption) ?_
   rotate_left
   ·(intro w' hSw; (try dsimp only at hSw); go_simp; try with_reducible rfl)
   try simp only [Act.put, List.setIfInBounds_toArray, List.set_cons_zero, List.set_cons_succ]
   refine wpAnyH_ready (rs := [4, 15]) (by kernel_rfl) (by simp) ?_
   refine AllReadyH.cons rfl (fun K hK => ?_) ?_
   ·go_simp
    refine hK.out _ _ ?_ (fun hHeld => ?_)
    ·((try dsimp only); go_keep)
    clear hK K
    try simp only [Act.put, List.setIfInBounds_toArray, List.set_cons_zero, List.set_cons_succ]
    refine wpAnyH_ready (rs := [15]) (by kernel_rfl) (by simp) ?_
    refine AllReadyH.cons rfl (fun K hK => ?_) ?_
    ·go_simp
     refine hK.out _ _ ?_ (fun hHeld => ?_)
     ·((try dsimp only); go_keep)
     clear hK K
     try simp only [Act.put, List.setIfInBounds_toArray, List.set_cons_zero, List.set_cons_succ]
     refine wpAnyH_ready (rs := [16]) (by kernel_rfl) (by simp) ?_
     refine AllReadyH.cons rfl (fun K hK => ?_) ?_
     ·refine step_append_lies _ rfl _ _ 140 rfl w3.heap.size 144 i0 (.agg #[.int .i64 0, .int .i64 0, .int .i64 0]) 3 24 Tryz.underlying140 hi hz0 hz1 hz2 rfl (by decide) (.slice ua k uc) k (flat V (s3.take k)) (by simp [Act.eval, Act.put]) (own_heap HOW.out ⟨rfl, rfl, rfl, rfl⟩) ⟨wr.heap.size + 1, 0, none⟩ 1 1 [.int .i64 x, .int .i64 y, .int .i64 (V ((zn : Int)))] (by simp [Act.eval, Act.put]) rfl (HNEW.out _ ⟨rfl, rfl, rfl, rfl⟩) (flat_one V x y zn) (by decide) H63.out HBY.out (HBS.out _ ⟨rfl, rfl, rfl, rfl⟩) _ rfl ?_
      intro g cap w4 hown4 hgrow4 hat4 hlt4
      obtain ⟨k0, k1, k2, k3, k4, k5, R3, R1, R2⟩ := KEEP.out _ _ g cap hown4 hgrow4 ⟨rfl, rfl, rfl, rfl⟩
      clear hown4 hgrow4 hat4
      refine hK.out _ _ ?_ (fun hHeld => ?_)
      ·((try dsimp only); go_keep)
      clear hK K
      try simp only [Act.put, List.setIfInBounds_toArray, List.set_cons_zero, List.set_cons_succ]
      refine wpAnyH_take (i := 17) (v := ?_) rfl (by kernel_rfl) (by kernel_rfl) (by kernel_rfl) (fun _ _ _ h => h) (Or.inl ⟨by rfl, ?_⟩) (by assumption) ?_
      rotate_left
      ·(intro w' hSw; (try dsimp only at hSw); go_simp; try with_reducible rfl)
      try simp only [Act.put, List.setIfInBounds_toArray, List.set_cons_zero, List.set_cons_succ]
      refine wpAnyH_take (i := 18) (v := ?_) rfl (by kernel_rfl) (by kernel_rfl) (by kernel_rfl) (fun _ _ _ h => h) (Or.inl ⟨by rfl, ?_⟩) (by assumption) ?_
      rotate_left
      ·(intro w' hSw; (try dsimp only at hSw); go_simp; try with_reducible rfl)
      try simp only [Act.put, List.setIfInBounds_toArray, List.set_cons_zero, List.set_cons_succ]
      refine wpAnyH_ready (rs := [19]) (by kernel_rfl) (by simp) ?_
      refine AllReadyH.cons rfl (fun K hK => ?_) ?_
      ·go_simp
       refine hK.out _ _ ?_ (fun hHeld => ?_)
       ·((try dsimp only); go_keep)
       clear hK K
       try simp only [Act.put, List.setIfInBounds_toArray, List.set_cons_zero, List.set_cons_succ]
       refine wpAnyH_done (by kernel_rfl) ?_ _
       refine NoPanic.normal ?_
       go_wp2
       exact ⟨⟨k + 1, some ⟨g, 0, none⟩, cap, by omega, by go_num, R3.out, R1, R2.out⟩, by simp [intOf]; omega⟩
      exact AllReadyH.nil
     exact AllReadyH.nil
    exact AllReadyH.nil
   refine AllReadyH.cons rfl (fun K hK => ?_) ?_
   ·go_simp
    refine hK.out _ _ ?_ (fun hHeld => ?_)
    ·((try dsimp only); go_keep)
    clear hK K
    try simp only [Act.put, List.setIfInBounds_toArray, List.set_cons_zero, List.set_cons_succ]
    refine wpAnyH_ready (rs := [4]) (by kernel_rfl) (by simp) ?_
    refine AllReadyH.cons rfl (fun K hK => ?_) ?_
    ·go_simp
     refine hK.out _ _ ?_ (fun hHeld => ?_)
     ·((try dsimp only); go_keep)
     clear hK K
     try simp only [Act.put, List.setIfInBounds_toArray, List.set_cons_zero, List.set_cons_succ]
     refine wpAnyH_ready (rs := [16]) (by kernel_rfl) (by simp) ?_
     refine AllReadyH.cons rfl (fun K hK => ?_) ?_
     ·refine step_append_lies _ rfl _ _ 140 rfl w3.heap.size 144 i0 (.agg #[.int .i64 0, .int .i64 0, .int .i64 0]) 3 24 Tryz.underlying140 hi hz0 hz1 hz2 rfl (by decide) (.slice ua k uc) k (flat V (s3.take k)) (by simp [Act.eval, Act.put]) (own_heap HOW.out ⟨rfl, rfl, rfl, rfl⟩) ⟨wr.heap.size + 1, 0, none⟩ 1 1 [.int .i64 x, .int .i64 y, .int .i64 (V ((zn : Int)))] (by simp [Act.eval, Act.put]) rfl (HNEW.out _ ⟨rfl, rfl, rfl, rfl⟩) (flat_one V x y zn) (by decide) H63.out HBY.out (HBS.out _ ⟨rfl, rfl, rfl, rfl⟩) _ rfl ?_
      intro g cap w4 hown4 hgrow4 hat4 hlt4
      obtain ⟨k0, k1, k2, k3, k4, k5, R3, R1, R2⟩ := KEEP.out _ _ g cap hown4 hgrow4 ⟨rfl, rfl, rfl, rfl⟩
      clear hown4 hgrow4 hat4
      refine hK.out _ _ ?_ (fun hHeld => ?_)
      ·((try dsimp only); go_keep)
      clear hK K
      try simp only [Act.put, List.setIfInBounds_toArray, List.set_cons_zero, List.set_cons_succ]
      refine wpAnyH_take (i := 17) (v := ?_) rfl (by kernel_rfl) (by kernel_rfl) (by kernel_rfl) (fun _ _ _ h => h) (Or.inl ⟨by rfl, ?_⟩) (by assumption) ?_
      rotate_left
      ·(intro w' hSw; (try dsimp only at hSw); go_simp; try with_reducible rfl)
      try simp only [Act.put, List.setIfInBounds_toArray, List.set_cons_zero, List.set_cons_succ]
      refine wpAnyH_take (i := 18) (v := ?_) rfl (by kernel_rfl) (by kernel_rfl) (by kernel_rfl) (fun _ _ _ h => h) (Or.inl ⟨by rfl, ?_⟩) (by assumption) ?_
      rotate_left
      ·(intro w' hSw; (try dsimp only at hSw); go_simp; try with_reducible rfl)
      try simp only [Act.put, List.setIfInBounds_toArray, List.set_cons_zero, List.set_cons_succ]
      refine wpAnyH_ready (rs := [19]) (by kernel_rfl) (by simp) ?_
      refine AllReadyH.cons rfl (fun K hK => ?_) ?_
      ·go_simp
       refine hK.out _ _ ?_ (fun hHeld => ?_)
       ·((try dsimp only); go_keep)
       clear hK K
       try simp only [Act.put, List.setIfInBounds_toArray, List.set_cons_zero, List.set_cons_succ]
       refine wpAnyH_done (by kernel_rfl) ?_ _
       refine NoPanic.normal ?_
       go_wp2
       exact ⟨⟨k + 1, some ⟨g, 0, none⟩, cap, by omega, by go_num, R3.out, R1, R2.out⟩, by simp [intOf]; omega⟩
      exact AllReadyH.nil
     exact AllReadyH.nil
    exact AllReadyH.nil
   exact AllReadyH.nil
  ·obtain rfl : k = m := by omega
   have HO' : Hid (Own wr w3.heap.size V (.slice ua k uc) s3) := by
    unfold Hid Own; rw [HL.out]; have := HO.out; rw [List.take_of_length_le (by rw [HL.out]; exact Nat.le_refl _)] at this; exact this
   have hc1 : wr.cell? ⟨w.heap.size, 1, none⟩ = some (.slice none 0 0) := (hmut.cell 1 (.inr (Nat.le_refl _))).trans y1
   have hfz1 : wr.frozen? ⟨w.heap.size, 1, none⟩ = false := frozen_mut hmut hts HF.out 1
   have HBW : Hid (Below w.heap.size w wr) := HB.out.trans (hmut.below (Nat.le_of_lt hts) (Nat.le_refl _))
   have HRV : Hid (RV wr V ua s3) := by
    obtain ⟨ao', cap', e, hv, _⟩ := HO'.out.view
    injection e with e1 e2 e3
    unfold Hid; rw [e1]; exact hv
   have HNE : Hid (∀ b, ua = some ⟨b, 0, none⟩ → b ≠ w.heap.size) := fun b e => by
    have := (HO.out.lt b (by rw [e]; rfl)).1; omega
   clear HO hmut hfz0 HO'
   rcases Nat.eq_zero_or_pos k with h0 | h0
   ·subst h0
    have C := starts_none uc ua wr
    go_wp2_with fail
    refine C.mono ?_
    rintro e w5 ⟨rfl, rfl⟩
    have T : Hid (TrieIs (w5.setCell ⟨w.heap.size, 1, none⟩ (.slice none 0 0)) V w.heap.size s3) := by
     refine ⟨⟨ua, uc, ?_, HRV.out.setOther HNE.out _⟩, fun h => by rw [HL.out] at h; omega⟩
     rw [HL.out]; exact (cell_set_ne _ _ _ _ _ (by decide)).trans hc0
    have R2 := HBW.out.setCell (p := ⟨w.heap.size, 1, none⟩) (Nat.le_refl _) (.slice none 0 0)
    clear C
    go_wp2
    go_ret
    exact ⟨_, _, rfl, T.out, HR.out, HT.out, R2⟩
   ·have C := starts_any vn V ua uc s3 wr HRV.out HR.out (by rw [HL.out]; exact h0)
    rw [HL.out] at C
    go_wp2_with fail
    refine C.mono ?_
    rintro e w5 ⟨b, rfl, hb, hrow, hbel⟩
    clear C
    have tlt : w.heap.size < wr.heap.size := World.block_lt_of_cell? wr _ hc0
    have d0 := (hbel.cell (p := ⟨w.heap.size, 0, none⟩) tlt).trans hc0
    have d1 := (hbel.cell (p := ⟨w.heap.size, 1, none⟩) tlt).trans hc1
    have d2 := (hbel.frozen (p := ⟨w.heap.size, 1, none⟩) tlt).trans hfz1
    have T : Hid (TrieIs (w5.setCell ⟨w.heap.size, 1, none⟩ (.slice (some ⟨b, 0, none⟩) 4353 4353)) V w.heap.size s3) := by
     refine ⟨⟨ua, uc, ?_, (HRV.out.below hbel).setOther HNE.out _⟩, fun h => ⟨b, cell_set_eq _ _ _ _ _ d1, fun j hj => ?_⟩⟩
     ·rw [HL.out]; exact (cell_set_ne _ _ _ _ _ (by decide)).trans d0
     ·exact (World.cell?_of_block (a := ⟨b, j, none⟩) (Below.heap_setCell _ _ _ _ (by simp only; omega))).trans (hrow.cell hj)
    have R2 := (HBW.out.trans (hbel.mono (Nat.le_of_lt tlt))).setCell (p := ⟨w.heap.size, 1, none⟩) (Nat.le_refl _) (.slice (some ⟨b, 0, none⟩) 4353 4353)
    clear hrow hbel hc0 hc1 hfz1 HRV HBW
    go_wp2
    go_ret
    exact ⟨_, _, rfl, T.out, HR.out, HT.out, R2⟩
end Go.Proofs.YtinlolmjafjhnaaGreatDoor.tri.num
end

section
/- What notAhead and Get of a trie of values of type int answer. -/
set_option linter.unusedVariables false
set_option linter.unusedSimpArgs false
namespace Go.Proofs.YtinlolmjafjhnaaGreatDoor.tri.num
open Go.RowKit Go.Proofs.YtinlolmjafjhnaaGreatDoor.tri
open Go.Proofs.YtinlolmjafjhnaaGreatDoor.rng (ret_int ret_bool below_drewN info_parts own_below')

set_option maxRecDepth 100000 in
set_option maxHeartbeats 4000000 in
theorem notAhead_any (nv : Int) (V : Int → Int) (tb : Nat) (s : List E) (r : Int) (w : World) (ht : TrieIs w V tb s) (hr : Ris nv 0 s) (h0 : 0 < s.length) (hr0 : 0 ≤ r) (hr1 : r ≤ 1114111) :
  Calls Tryz.prog 319 #[.pointer (some ⟨tb, 0, none⟩), .int .i64 r] w fun e w' => e = .returned (.int .i64 (cntH s r)) ∧ Below w.heap.size w w' := by
 obtain ⟨⟨ra, rc, t0, hv⟩, h3⟩ := ht
 obtain ⟨sb, t1, hst⟩ := h3 h0
 obtain ⟨b, rfl, hc⟩ := hv.some h0
 have HC : Hid (∀ i p, s[i]? = some p → w.cell? ⟨b, i * 3, none⟩ = some (.int .i64 p.1) ∧ w.cell? ⟨b, i * 3 + 1, none⟩ = some (.int .i64 p.2.1) ∧ w.cell? ⟨b, i * 3 + 2, none⟩ = some (.int .i64 (V (p.2.2)))) := hc
 have HR : Hid (Ris nv 0 s) := hr
 obtain ⟨B, hB⟩ : ∃ B : Nat, r / 256 = (B : Int) := ⟨(r / 256).toNat, by omega⟩
 have s0 := hst B (by omega)
 have s1 := hst (B + 1) (by omega)
 have l0 : cntH s (256 * (B : Int)) ≤ cntH s r := cntH_mono (by omega)
 have l1 : cntH s r ≤ cntH s (256 * ((B + 1 : Nat) : Int)) := cntH_mono (by omega)
 have l2 := cntH_le s (256 * ((B + 1 : Nat) : Int))
 have hlen := ris_len hr
 obtain ⟨C, hC⟩ : ∃ C, cntH s r = C := ⟨_, rfl⟩
 have HG : Hid (∀ i p, s[i]? = some p → (p.2.1 < r ↔ i < C)) := fun i p hp => by rw [← hC]; exact cntH_get hr hp
 obtain ⟨F, hF⟩ : ∃ F, cntH s (256 * (B : Int)) = F := ⟨_, rfl⟩
 obtain ⟨U, hU⟩ : ∃ U, cntH s (256 * ((B + 1 : Nat) : Int)) = U := ⟨_, rfl⟩
 rw [hC] at l0 l1 ⊢
 rw [hF] at l0 s0
 rw [hU] at l1 l2 s1
 obtain ⟨n, hl⟩ : ∃ n, s.length = n := ⟨_, rfl⟩
 rw [hl] at l2 h0 hlen t0
 have HL : Hid (s.length = n) := hl
 have hb0 : (B : Int) < 4353 := by omega
 have hb1 : (B : Int) + 1 < 4353 := by omega
 have hb2 : (0 : Int) ≤ (B : Int) := by omega
 have hb3 : (0 : Int) ≤ (B : Int) + 1 := by omega
 have hb4 : IntKind.i64.wrap ((B : Int) + 1) = (B : Int) + 1 := by rw [IntKind.wrap_i64]; omega
 have hb5 : ((B : Int) + 1).toNat = B + 1 := by omega
 have hb6 : IntKind.i64.wrap (B : Int) = (B : Int) := by rw [IntKind.wrap_i64]; omega
 clear hst hc hv hr h3 hC hF hU hl
 go_enter Tryz.func319, Tryz.ntmps319
 go_wp2
 go_quiet (fail)
 go_wp2
 go_loopw [6, 7] (fun f t wr => ∃ (f' t' q : Nat), f = .int .i64 f' ∧ t = .int .i64 t' ∧ f' ≤ C ∧ C ≤ t' ∧ t' ≤ n ∧ wr = w.drewN q) (fun f t _ => (intOf t).toNat - (intOf f).toNat)
 case atStart => exact ⟨F, U, _, rfl, rfl, l0, l1, l2, rfl⟩
 case round =>
  obtain ⟨f, t, q, rfl, rfl, hf, ht, htn, rfl⟩ := hrel
  by_cases hft : f < t
  ·obtain ⟨M, hM⟩ : ∃ M, (f + t) / 2 = M := ⟨_, rfl⟩
   have hdiv : Int.tdiv ((f : Int) + (t : Int)) 2 = (M : Int) := by rw [Int.tdiv_eq_ediv_of_nonneg (by omega), ← hM]; omega
   have hM1 : f ≤ M := by omega
   have hM2 : M < t := by omega
   have hMn : (M : Int) < (n : Int) := by omega
   have hM0 : (0 : Int) ≤ (M : Int) := by omega
   obtain ⟨x, y, z, hp⟩ := get3 HL.out (show M < n by omega)
   obtain ⟨c1, c2, c3⟩ := HC.out M (x, y, z) hp
   simp only at c1 c2 c3
   have hg := HG.out M (x, y, z) hp
   simp only at hg
   clear hp hM
   by_cases hy : y < r
   ·have hgm := hg.1 hy
    clear hg
    go_wp2
    go_roundw
    case rel => exact ⟨M + 1, t, q, by go_num, rfl, by omega, ht, htn, rfl⟩
    case measure => simp [intOf]; omega
   ·have hgm : ¬ M < C := fun h => hy (hg.2 h)
    clear hg
    go_wp2
    go_roundw
    case rel => exact ⟨f, M, q, rfl, rfl, hf, by omega, by omega, rfl⟩
    case measure => simp [intOf]; omega
  ·obtain rfl : f = C := by omega
   go_wp2
   go_ret
   exact ⟨rfl, below_drewN (Below.refl _ _) _⟩

/-- What Get tells. -/
def told (V : Int → Int) (o : Option Int) : Value := match o with | some v => .int .i64 (V (v)) | none => .int .i64 0
set_option maxRecDepth 100000 in
set_option maxHeartbeats 4000000 in
theorem get_any (nv : Int) (V : Int → Int) (tb : Nat) (s : List E) (r : Int) (w : World) (ht : TrieIs w V tb s) (hr : Ris nv 0 s) :
  Calls Tryz.prog 287 #[.pointer (some ⟨tb, 0, none⟩), .int .i64 r] w fun e w' => e = .returned (.tuple #[told V (at_ s r), .bool (at_ s r).isSome]) ∧ Below w.heap.size w w' := by
 have HT : Hid (TrieIs w V tb s) := ht
 obtain ⟨⟨ra, rc, t0, hv⟩, h3⟩ := ht
 have hlen := ris_len hr
 clear h3
 rcases Nat.eq_zero_or_pos s.length with h0 | h0
 ·obtain rfl : s = [] := List.eq_nil_of_length_eq_zero h0
  have t0' : w.cell? ⟨tb, 0, none⟩ = some (.slice ra 0 rc) := t0
  clear t0 hv hr hlen h0 HT
  go_enter Tryz.func287, Tryz.ntmps287
  go_wp2
  go_ret2
  exact ⟨rfl, Below.refl _ _⟩
 obtain ⟨b, rfl, hc⟩ := hv.some h0
 have NO : (r < 0 ∨ 1114111 < r) → at_ s r = none := fun h => by
  cases he : at_ s r with
  | none => rfl
  | some v => have := at_code hr (Int.le_refl 0) he; omega
 have hnn : ((s.length : Int) == 0) = false := beq_eq_false_iff_ne.2 (by omega)
 by_cases h1 : r < 0
 ·rw [NO (.inl h1)]
  clear HT hr NO hc hv
  generalize s.length = n at *
  go_enter Tryz.func287, Tryz.ntmps287
  go_wp2
  go_ret2
  exact ⟨rfl, Below.refl _ _⟩
 by_cases h2 : 1114111 < r
 ·rw [NO (.inr h2)]
  clear HT hr NO hc hv
  generalize s.length = n at *
  go_enter Tryz.func287, Tryz.ntmps287
  go_wp2
  go_ret2
  exact ⟨rfl, Below.refl _ _⟩
 have C := notAhead_any nv V tb s r w HT.out hr h0 (by omega) (by omega)
 have hcl := cntH_le s r
 obtain ⟨I, hI⟩ : ∃ I, cntH s r = I := ⟨_, rfl⟩
 have HAN : Hid (I = s.length → at_ s r = none) := fun h => at_none hr (hI.trans h)
 have HAH : Hid (∀ e, s[I]? = some e → at_ s r = if e.1 ≤ r then some e.2.2 else none) := fun e he => at_here hr (by rw [hI]; exact he)
 have HC : Hid (∀ i p, s[i]? = some p → w.cell? ⟨b, i * 3, none⟩ = some (.int .i64 p.1) ∧ w.cell? ⟨b, i * 3 + 1, none⟩ = some (.int .i64 p.2.1) ∧ w.cell? ⟨b, i * 3 + 2, none⟩ = some (.int .i64 (V (p.2.2)))) := hc
 obtain ⟨n, hl⟩ : ∃ n, s.length = n := ⟨_, rfl⟩
 rw [hl] at hcl HAN hlen h0 hnn t0
 have HL : Hid (s.length = n) := hl
 rw [hI] at C hcl
 clear HT hr NO hc hv hI hl
 have tlt : tb < w.heap.size := World.block_lt_of_cell? w _ t0
 by_cases hIn : I = n
 ·rw [HAN.out hIn]
  subst hIn
  have hii : ((I : Int) == (I : Int)) = true := by simp
  go_enter Tryz.func287, Tryz.ntmps287
  go_wp2_with fail
  refine C.mono ?_
  rintro e w1 ⟨rfl, hb⟩
  have t1 := (hb.cell (p := ⟨tb, 0, none⟩) tlt).trans t0
  clear C t0
  go_wp2
  go_ret2
  exact ⟨rfl, hb⟩
 ·obtain ⟨x, y, z, hp⟩ := get3 HL.out (show I < n by omega)
  obtain ⟨c1, c2, c3⟩ := HC.out I (x, y, z) hp
  simp only at c1 c2 c3
  have blt : b < w.heap.size := World.block_lt_of_cell? w _ c1
  have hat := HAH.out (x, y, z) hp
  simp only at hat
  have hii : ((I : Int) == (n : Int)) = false := beq_eq_false_iff_ne.2 (by omega)
  have hIn' : (I : Int) < (n : Int) := by omega
  have hI0 : (0 : Int) ≤ (I : Int) := by omega
  clear hp HAN HAH HC
  by_cases hx : x ≤ r
  ·rw [hat, if_pos hx]
   clear hat
   go_enter Tryz.func287, Tryz.ntmps287
   go_wp2_with fail
   refine C.mono ?_
   rintro e w1 ⟨rfl, hb⟩
   have t1 := (hb.cell (p := ⟨tb, 0, none⟩) tlt).trans t0
   have d1 := (hb.cell (p := ⟨b, I * 3, none⟩) blt).trans c1
   have d3 := (hb.cell (p := ⟨b, I * 3 + 2, none⟩) blt).trans c3
   clear C t0 c1 c2 c3
   go_wp2
   go_ret2
   exact ⟨rfl, hb⟩
  ·rw [hat, if_neg hx]
   clear hat
   go_enter Tryz.func287, Tryz.ntmps287
   go_wp2_with fail
   refine C.mono ?_
   rintro e w1 ⟨rfl, hb⟩
   have t1 := (hb.cell (p := ⟨tb, 0, none⟩) tlt).trans t0
   have d1 := (hb.cell (p := ⟨b, I * 3, none⟩) blt).trans c1
   clear C t0 c1 c2 c3
   go_wp2
   go_ret2
   exact ⟨rfl, hb⟩
end Go.Proofs.YtinlolmjafjhnaaGreatDoor.tri.num
end

section
/- What trie.same answers of two values of type string: whether they are one; what Ranges of a trie answers: the set of the code points of a value. -/
set_option linter.unusedVariables false
set_option linter.unusedSimpArgs false
namespace Go.Proofs.YtinlolmjafjhnaaGreatDoor.tri.str
open Go.RowKit Go.Proofs.YtinlolmjafjhnaaGreatDoor.tri
open Go.Proofs.YtinlolmjafjhnaaGreatDoor.rng (ret_int ret_bool below_drewN info_parts own_below' R code has IsSet infoRange)

theorem idle (p : Addr) (w : World) :
  CallsD Tryz.prog 235 #[.pointer (some p)] .returning w fun e u' w' => e = .returned (.tuple #[]) ∧ u' = .returning ∧ w' = w := by
 refine callsD_of_wpS Tryz.func235 rfl fun c₀ cs hu => ?_
 apply wpS_seq
 apply wpS_region
 simp [wpOpsS, go_sem, recoverD, hu, Tryz.ntmps235, Exit.thenS]
 refine wpS_cond (t := false) (by simp [Act.eval, Array.replicate]) ?_
 simp only [Bool.false_eq_true, if_false]
 refine wpS_of_wp (wp_skip ?_)
 cases c₀
 simp_all [bodyPostS, results, Tryz.results235]
set_option maxHeartbeats 1000000 in
theorem same_any (a b : ByteArray) (w : World) :
  Calls Tryz.prog 186 #[.string a, .string b] w fun e w' => e = .returned (.bool (a == b)) ∧ Below w.heap.size w w' := by
 have hmf : ∀ (fn : Fn) (first cap : Array Value) (w : World), (Instr.makeFunc fn first cap).run Tryz.prog w = .ok (.func fn first cap) w := fun _ _ _ _ => rfl
 have hb := (Below.refl w.heap.size w).alloc (Nat.le_refl _) (.cells #[.bool (a == b)] 4)
 go_enter_defers Tryz.func186, Tryz.ntmps186
 go_wp2
 refine leaves_cons (f := 235) (args := #[.pointer (some ⟨w.heap.size, 0, none⟩)]) (by simp) (by simp [go_sem]) ?_
 refine (idle ⟨w.heap.size, 0, none⟩ _).mono ?_
 rintro e u' w'' ⟨rfl, rfl, rfl⟩
 simp [Leaves, settle, results, Tryz.results186, go_sem]
 first | exact hb | exact ⟨rfl, hb⟩ | (refine ⟨(beq_toListBytes _ _).symm, ?_⟩; rw [← beq_toListBytes]; exact hb)

set_option maxRecDepth 100000 in
set_option maxHeartbeats 4000000 in
theorem ranges_any (nv : Int) (V : Int → ByteArray) (tb : Nat) (s : List E) (v : ByteArray) (w : World) (ht : TrieIs w V tb s) (hr : Ris nv 0 s) :
  Calls Tryz.prog 146 #[.pointer (some ⟨tb, 0, none⟩), .string v] w fun e w' => ∃ v' r, e = .returned v' ∧ rng.Own w' w.heap.size v' r ∧ IsSet r (fun x => match at_ s x with | some i => V i == v | none => false) ∧ Below w.heap.size w w' := by
 obtain ⟨i0, hi, hz0, hz1, hz2⟩ := info_parts infoRange
 obtain ⟨⟨ra, rc, t0, hv⟩, h3⟩ := ht
 clear h3
 have HV : Hid (RV w V ra s) := hv
 have HR : Hid (Ris nv 0 s) := hr
 have hlen := ris_len hr
 obtain ⟨n, hl⟩ : ∃ n, s.length = n := ⟨_, rfl⟩
 rw [hl] at hlen t0
 have HL : Hid (s.length = n) := hl
 clear hv hr hl
 go_enter Tryz.func146, Tryz.ntmps146
 go_wp2
 go_loopw [5, 15] (fun o i wr => ∃ (k : Nat) (out : List R), k ≤ n ∧ i = .int .i64 k ∧ out.length ≤ k ∧ Hid (out = rngOf (fun i => V i == v) (s.take k)) ∧ wr.ownsRow w.heap.size 66 2 o out.length (rng.flat out) ∧ Below w.heap.size w wr) (fun _ i _ => n - (intOf i).toNat)
 case atStart => exact ⟨0, [], Nat.zero_le _, rfl, Nat.le_refl _, rfl, World.ownsRow_nil _ _ _ _, Below.refl _ _⟩
 case round =>
  obtain ⟨k, out, hk, rfl, hok, HO, hown, hbel⟩ := hrel
  have hs1 := hbel.size
  by_cases hlt : k < n
  ·obtain ⟨x, y, z, hp⟩ := get3 HL.out hlt
   obtain ⟨b, rfl, hc⟩ := (HV.out.below hbel).some (by have := HL.out; omega)
   obtain ⟨c1, c2, c3⟩ := hc k (x, y, z) hp
   simp only at c1 c2 c3
   have HN : Hid (rngOf (fun i => V i == v) (s.take (k + 1)) = rngOf (fun i => V i == v) (s.take k) ++ (if (V z == v) = true then [(x, y)] else [])) := by
    unfold Hid; rw [takeX hp, rngOf_snoc]
   clear hc hp
   have O1 := hown.alloc (.cells #[.int .i64 x, .int .i64 y, .string (V (z))] 138)
   have B1 := hbel.alloc hs1 (.cells #[.int .i64 x, .int .i64 y, .string (V (z))] 138)
   have f0 : (wr.alloc (.cells #[.int .i64 x, .int .i64 y, .string (V (z))] 138)).cell? ⟨wr.heap.size, 0, none⟩ = some (.int .i64 x) := by simp
   have f1 : (wr.alloc (.cells #[.int .i64 x, .int .i64 y, .string (V (z))] 138)).cell? ⟨wr.heap.size, 1, none⟩ = some (.int .i64 y) := by simp
   have bl : wr.heap.size < (wr.alloc (.cells #[.int .i64 x, .int .i64 y, .string (V (z))] 138)).heap.size := by simp
   have C := same_any (V z) v (wr.alloc (.cells #[.int .i64 x, .int .i64 y, .string (V (z))] 138))
   have HW : Hid (∀ j, u5.ownBlock = some j → w.heap.size ≤ j) := fun j e => (hown.lt _ e).1
   obtain ⟨t, hVz⟩ : ∃ t, (V z == v) = t := ⟨_, rfl⟩
   rw [hVz] at C
   have HN' : Hid (rngOf (fun i => V i == v) (s.take (k + 1)) = out ++ (if t = true then [(x, y)] else [])) := by
    unfold Hid; rw [HN.out, hVz, ← HO.out]
   clear hVz HN HO hown hbel
   go_wp2_with fail
   refine C.mono ?_
   rintro e w2 ⟨rfl, hb2⟩
   have O2 := own_below' O1 hb2
   have B2 := B1.trans (hb2.mono B1.size)
   have g0 := (hb2.cell (p := ⟨wr.heap.size, 0, none⟩) bl).trans f0
   have g1 := (hb2.cell (p := ⟨wr.heap.size, 1, none⟩) bl).trans f1
   have hs2 := B2.size
   clear C hb2 O1 B1 f0 f1 c1 c2 c3
   cases t with
   | false =>
    have HE : Hid (out = rngOf (fun i => V i == v) (s.take (k + 1))) := by unfold Hid; rw [HN'.out]; simp
    clear HN'
    go_wp2
    go_roundw
    case rel => exact ⟨k + 1, out, by omega, by go_num, by omega, HE, O2, B2⟩
    case measure => simp [intOf]; omega
   | true =>
    have HE : Hid (out ++ [(x, y)] = rngOf (fun i => V i == v) (s.take (k + 1))) := by unfold Hid; rw [HN'.out]; simp
    clear HN'
    go_wp2_with (at_builtin; refine wpList_append_own _ rfl _ _ 22 rfl w.heap.size 66 i0 (.agg #[.int .i64 0, .int .i64 0]) 2 16 Tryz.underlying22 hi hz0 hz1 hz2 rfl (by decide) _ _ _ rfl (O2.alloc _) ⟨w2.heap.size, 0, none⟩ 1 1 [.int .i64 x, .int .i64 y] rfl rfl ?c1 ?c2 ?c3 ?c4 ?c5 ?_)
    try (case c1 => exact rng.one_new w2 _ _ _)
    case c2 => first | (intro u hu; simp at hu; rcases hu with rfl | rfl <;> rfl) | (refine ⟨?_, ?_⟩ <;> rfl)
    case c3 => unfold maxLen; omega
    case c4 => omega
    case c5 => first | omega | (simp; omega)
    ·intro v' w4 hown4 hgrow _
     have R2 := Below.grown (B2.alloc hs2 (.cells #[.int .i64 x, .int .i64 y] 66)) hgrow (by simp; omega) HW.out
     have R1 : w4.ownsRow w.heap.size 66 2 v' (out ++ [(x, y)]).length (rng.flat (out ++ [(x, y)])) := by
      rw [rng.flat_append, rng.flat_two, List.length_append]; exact hown4
     have R3 : (out ++ [(x, y)]).length ≤ k + 1 := by rw [List.length_append]; simp; omega
     clear hown4 hgrow
     go_wp2
     go_roundw
     case rel => exact ⟨k + 1, out ++ [(x, y)], by omega, by go_num, R3, HE, R1, R2⟩
     case measure => simp [intOf]; omega
  ·have HD : Hid (out = rngOf (fun i => V i == v) s) := by
    have := HO.out; rw [List.take_of_length_le (by have := HL.out; omega)] at this; exact this
   have hown' : rng.Own wr w.heap.size u5 out := hown
   obtain ⟨ao, cap, rfl, hv, _, _⟩ := rng.Own.view hown'
   have C := rng.make_any ao cap out wr (by omega) hv
   have HBE : Hid (Below w.heap.size w wr) := hbel
   clear HO hown hown' hv hbel
   generalize out.length = ol at *
   go_wp2_with fail
   refine C.mono ?_
   rintro e w2 ⟨v2, r2, rfl, o2, i2, b2⟩
   have I2 : Hid (IsSet r2 (has out)) := i2
   have O2 : Hid (rng.Own w2 wr.heap.size v2 r2) := o2
   clear i2 o2 C
   go_wp2
   go_ret
   refine ⟨_, r2, rfl, rng.own_mono O2.out hs1, I2.out.congr (fun x _ => ?_), HBE.out.trans (b2.mono hs1)⟩
   rw [HD.out, has_rngOf _ x (Int.le_refl 0) HR.out]
   cases at_ s x <;> rfl
end Go.Proofs.YtinlolmjafjhnaaGreatDoor.tri.str
end
