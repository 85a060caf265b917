/- AuditItems walked. -/
import Derived.Test.YtpdkdfgcnhcmkaaAudItmP
set_option linter.unusedVariables false
set_option linter.unusedSimpArgs false
namespace Go.Proofs.Ytpdkdfgcnhcmkaa.aud
open Go.RowKit
open Go.Proofs.Ytpdkdfgcnhcmkaa.edt
open Go.Proofs.Ytpdkdfgcnhcmkaa.utf (items IsB)

theorem fs_ms {w : World} {ao : Option Addr} {n cap : Nat} {l : List Sp} (h : FS w ao n cap l) : MS w ao n cap (l.map fun s => [s]) := by
  refine ⟨by rw [List.length_map]; exact h.len, h.nc, h.cm, ?_⟩
  rcases h.cell with k | ⟨b, off, rfl, k⟩
  · exact .inl k
  · refine .inr ⟨b, off, rfl, fun i hi => ?_⟩
    obtain ⟨g, h1, h2, h3⟩ := k i hi
    refine ⟨some ⟨g, 0, none⟩, 1, 1, h1, ?_⟩
    have e : (l.map fun s => [s]).getD i [] = [l.getD i (0, 0)] := by
      rw [List.getD_eq_getElem?_getD, List.getElem?_map, List.getElem?_eq_getElem (by rw [h.len]; exact hi), List.getD_eq_getElem?_getD, List.getElem?_eq_getElem (by rw [h.len]; exact hi)]; rfl
    rw [e]
    refine ⟨rfl, Nat.le_refl _, by omega, .inr ⟨g, 0, rfl, fun j hj => ?_⟩⟩
    obtain rfl : j = 0 := by omega
    exact ⟨h2, h3⟩
def spS (L : List Im) : List Sp := L.map fun x => ((x.2.1 : Int), (x.2.2 : Int))
theorem spS_spL (L : List Im) : (spS L).map (fun s => [s]) = spL L := by simp [spS, spL]
theorem spS_snoc (L : List Im) (k : Nat) (h : k < L.length) : spS (L.take (k + 1)) = spS (L.take k) ++ [(((L.getD k (0, 0, 0)).2.1 : Int), ((L.getD k (0, 0, 0)).2.2 : Int))] := by
  rw [take_snoc L k (0, 0, 0) h]; simp [spS]
/-- So many parts of nothing. -/
def nts (k : Nat) : List Tx := List.replicate k (.slice none 0 0, [])
theorem nts_mem (w : World) (k : Nat) : ∀ t ∈ nts k, ∃ a m c, t.1 = .slice a m c ∧ BS w a m c t.2 := by
  intro t h
  obtain ⟨_, rfl⟩ := List.mem_replicate.1 h
  exact ⟨_, _, _, rfl, BS.nilv w⟩
theorem nts_fst (k : Nat) : (nts k).map Prod.fst = List.replicate k (.slice none 0 0) := by simp [nts]
theorem nts_snd (k : Nat) : (nts k).map Prod.snd = List.replicate k [] := by simp [nts]
theorem found_new (w : World) (x : Value) : ∀ (j : Nat) (u : Value), [x][j]? = some u → (w.alloc (Obj.cells #[x] 37)).cell? ((⟨w.heap.size, 0, none⟩ : Addr).add j) = some u := by
  intro j u hj
  match j, hj with
  | 0, hj => simp at hj; subst hj; simp [Addr.add]
  | k + 1, hj => simp at hj
theorem fo_other {w w' : World} {B B' n : Nat} {v v' : Value} {gs : List Nat} {l : List Sp} {xs : List Value} (h : FO w B v gs l) (hr : w.ownsRow B' 25 1 v' n xs) (hg : w.grownBy w' v'.ownBlock) : FO w' B v gs l :=
  ⟨h.len, World.ownsRow.kept h.row hg (own_apart h.row hr (by decide)), fun i g hi => (hg.block _ (Array.getElem?_eq_some_iff.1 (h.sps i g hi)).1 (fun e => row_ne hr (h.sps i g hi) (by decide) e.symm)).trans (h.sps i g hi)⟩
theorem nts_snoc (k : Nat) : nts k ++ nts 1 = nts (k + 1) := by simp [nts, List.replicate_succ']
set_option maxHeartbeats 4000000 in
theorem items_walk (ao : Option Addr) (n0 cap : Nat) (b0 : List Int) (c : Int) (w : World) (hB0 : BS w ao n0 cap b0) (hc : 0 ≤ c ∧ c ≤ 255) :
    Calls Try.prog 6 #[.slice ao n0 cap, .int .u8 c] w fun e w' => e = .returned (.bool true) ∧ Below w.heap.size w w' := by
  obtain ⟨i0, hi, hz0, hz1, hz2⟩ := info_parts infoBytes
  obtain ⟨i1, hi1, hy0, hy1, hy2⟩ := info_parts infoFound
  obtain ⟨n, hn⟩ : ∃ n, min n0 200 = n := ⟨_, rfl⟩
  have hB := pre_bs hB0 n (by omega)
  have hnc0 := hB0.nc
  have hcm0 := hB0.cm
  have hn2 : n ≤ 200 := by omega
  have hmin : min (n0 : Int) 200 = (n : Int) := by omega
  have hmin2 : (if (n0 : Int) < 200 then (n0 : Int) else 200) = (n : Int) := by split <;> omega
  have hmin3 : (if (200 : Int) < (n0 : Int) then 200 else (n0 : Int)) = (n : Int) := by split <;> omega
  have hmin4 : (if (n0 : Int) ≤ 200 then (n0 : Int) else 200) = (n : Int) := by split <;> omega
  have hncap : (n : Int) ≤ (cap : Int) := by omega
  have hn00 : (0 : Int) ≤ (n : Int) := by omega
  generalize b0.take n = b at *
  clear hB0 hn
  have HD : Hid (∀ W, Below w.heap.size w W → Calls Try.prog 15 #[.slice ao n cap] W fun e w' => ∃ v, e = .returned v ∧ w'.ownsRow W.heap.size 32 3 v (items (fun i => b.getD i 0) n 0).length (utf.flat (items (fun i => b.getD i 0) n 0)) ∧ Below W.heap.size W w') := fun W hb => utf.rdecode_any ao n cap _ W (isB_of (hB.below hb)) (by omega) hB.nc hB.cm hB.rg
  have HB : Hid (BS w ao n cap b) := hB
  have hcnt := it_count (fun i => b.getD i 0) n _ 0 rfl
  clear hB
  obtain ⟨L, hL⟩ : ∃ L, items (fun i => b.getD i 0) n 0 = L := ⟨_, rfl⟩
  obtain ⟨N, hN⟩ : ∃ N, L.length = N := ⟨_, rfl⟩
  have HL : Hid (items (fun i => b.getD i 0) n 0 = L) := hL
  have HN : Hid (L.length = N) := hN
  rw [hL, hN] at HD hcnt
  clear hL hN
  have hcnt : N ≤ 200 := by omega
  go_enter Try.func6, Try.ntmps6
  go_wp2_with fail
  refine (HD.out _ ((Below.refl _ w).alloc (Nat.le_refl _) _)).mono ?_
  rintro e w1 ⟨v, rfl, hown, hb1⟩
  have B1 : Hid (Below w.heap.size w w1) := ((Below.refl _ w).alloc (Nat.le_refl _) _).trans (hb1.mono (by simp))
  have P1 : Hid (TO w w1 w.heap.size (.slice (some ⟨w.heap.size, 0, none⟩) 1 1) (nts 1)) := ⟨own_below (World.ownsRow_lit (base := w.heap.size) (e := 25) (size := 1) w #[.slice none 0 0] 1 (Nat.le_refl _) (by decide) rfl) hb1, nts_mem w 1⟩
  have hw1 : w.heap.size < (w.alloc (.cells #[.slice none 0 0] 25)).heap.size := by simp
  obtain ⟨ai, ci, rfl⟩ := own_slice hown
  have HO : Hid (w1.ownsRow w.heap.size 32 3 (.slice ai N ci) N (utf.flat L)) := own_mono hown (by simp)
  clear hown hb1 HD hw1
  go_wp2
  go_loopw [5, 6, 19] (fun v pv i wr => ∃ (k : Nat) (gs : List Nat), k ≤ N ∧ i = .int .i64 k ∧ Hid (gs.length = k) ∧ Hid (FO wr w.heap.size v gs (spS (L.take k))) ∧ Hid (TO w wr w.heap.size pv (nts (k + 1))) ∧ Hid (wr.ownsRow w.heap.size 32 3 (.slice ai N ci) N (utf.flat L)) ∧ Hid (Below w.heap.size w wr)) (fun _ _ i _ => N - (intOf i).toNat)
  case atStart => exact ⟨0, [], Nat.zero_le _, rfl, rfl, FO.nil _ _, P1, HO, B1⟩
  case round =>
    clear P1 HO B1
    obtain ⟨k, gs, hk, rfl, hgs, FK, PK, OK, BK⟩ := hrel
    have hsz := BK.out.size
    by_cases hlt : k < N
    · obtain ⟨e0, e1, e2⟩ := flat_get L k (by rw [HN.out]; exact hlt)
      have HS2 : Hid (spS (L.take (k + 1)) = spS (L.take k) ++ [(((L.getD k (0, 0, 0)).2.1 : Int), ((L.getD k (0, 0, 0)).2.2 : Int))]) := spS_snoc L k (by rw [HN.out]; exact hlt)
      generalize L.getD k (0, 0, 0) = x at *
      obtain ⟨x0, x1, x2⟩ := x
      simp only at e0 e1 e2 HS2
      obtain ⟨gi, hai⟩ : ∃ gi, ai = some ⟨gi, 0, none⟩ := by
        rcases OK.out.2 with ⟨h, h0⟩ | ⟨g, cc, cur, h, _⟩
        · omega
        · cases h; exact ⟨g, rfl⟩
      subst hai
      have c0 : wr.cell? ⟨gi, k * 3, none⟩ = some (.int .i64 x0) := (OK.out.cellAt _ (by omega)).trans e0
      have c1 : wr.cell? ⟨gi, k * 3 + 1, none⟩ = some (.int .i64 x1) := (OK.out.cellAt _ (by omega)).trans e1
      have c2 : wr.cell? ⟨gi, k * 3 + 2, none⟩ = some (.int .i64 x2) := (OK.out.cellAt _ (by omega)).trans e2
      have hgl : gs.length ≤ 200 := by rw [hgs.out]; omega
      clear e0 e1 e2
      have FA : Hid (∀ o o', FO ((wr.alloc o).alloc o') w.heap.size u5 gs (spS (L.take k))) := fun o o' => (FK.out.alloc o).alloc o'
      have PA : Hid (∀ o o' o'', TO w (((wr.alloc o).alloc o').alloc o'') w.heap.size u6 (nts (k + 1))) := fun o o' o'' => ((PK.out.alloc o).alloc o').alloc o''
      have OA : Hid (∀ o o' o'', (((wr.alloc o).alloc o').alloc o'').ownsRow w.heap.size 32 3 (.slice (some ⟨gi, 0, none⟩) N ci) N (utf.flat L)) := fun o o' o'' => ((OK.out.alloc o).alloc o').alloc o''
      have BA : Hid (∀ o o' o'', Below w.heap.size w (((wr.alloc o).alloc o').alloc o'')) := fun o o' o'' => ((BK.out.alloc hsz _).alloc (by simp; omega) _).alloc (by simp; omega) _
      have HAP : Hid (u6.ownBlock = none ∨ u6.ownBlock ≠ u5.ownBlock) := own_apart PK.out.row FK.out.row (by decide)
      have HAO : Hid ((Value.slice (some ⟨gi, 0, none⟩) N ci).ownBlock = none ∨ (Value.slice (some ⟨gi, 0, none⟩) N ci).ownBlock ≠ u5.ownBlock) := own_apart OK.out FK.out.row (by decide)
      have HTX : Hid (∀ t ∈ nts (k + 1), ∃ a m c, t.1 = .slice a m c ∧ BS w a m c t.2) := PK.out.txt
      have HVB : Hid (∀ k, u5.ownBlock = some k → w.heap.size ≤ k) := fun k e => (FK.out.row.lt k e).1
      have HVP : Hid (∀ k, u6.ownBlock = some k → w.heap.size ≤ k) := fun k e => (PK.out.row.lt k e).1
      clear FK PK OK BK
      go_wp2_with (at_builtin; refine wpList_append_lies _ rfl _ _ 22 rfl w.heap.size 37 i1 (.agg #[.slice none 0 0]) 1 24 Try.underlying22 hi1 hy0 hy1 hy2 rfl (by decide) _ gs.length _ rfl ((FA.out _ _).row.alloc _) ⟨wr.heap.size + 1 + 1, 0, none⟩ 1 1 [.slice (some ⟨wr.heap.size + 1, 0, none⟩) 1 1] rfl rfl ?d1 ?d2 (by decide) ?d3 ?d4 ?d5 _ rfl ?_)
      case d1 =>
        have h9 := found_new ((wr.alloc (.cells #[.int .i64 x0, .int .i64 x1, .int .i64 x2] 32)).alloc (.cells #[.int .i64 x1, .int .i64 x2] 34)) (.slice (some ⟨wr.heap.size + 1, 0, none⟩) 1 1)
        simp only [World.size_alloc] at h9
        exact h9
      case d2 => intro u hu; simp at hu; subst hu; rfl
      case d3 => unfold maxLen; omega
      case d4 => omega
      case d5 => simp; omega
      · intro g5 c5 w5 hown5 hgrow5 hat5 hlt5
        have hsp : ((wr.alloc (.cells #[.int .i64 x0, .int .i64 x1, .int .i64 x2] 32)).alloc (.cells #[.int .i64 x1, .int .i64 x2] 34)).heap[wr.heap.size + 1]? = some (.cells #[.int .i64 x1, .int .i64 x2] 34 (0, 0)) := by
          have h9 := Bk.new (wr.alloc (.cells #[.int .i64 x0, .int .i64 x1, .int .i64 x2] 32)) #[.int .i64 x1, .int .i64 x2] 34
          simp only [World.size_alloc] at h9
          exact h9
        have F5 : Hid (FO w5 w.heap.size (.slice (some ⟨g5, 0, none⟩) (gs.length + 1) c5) (gs ++ [wr.heap.size + 1]) (spS (L.take (k + 1)))) := by
          show FO _ _ _ _ _
          rw [HS2.out]
          exact ((FA.out _ _).alloc _).snoc (wr.heap.size + 1) x1 x2 (Bk.past (g := wr.heap.size + 1) hsp _) hown5 hgrow5
        have P5 : Hid (TO w w5 w.heap.size u6 (nts (k + 1))) := ⟨World.ownsRow.kept (PA.out _ _ _).row hgrow5 HAP.out, HTX.out⟩
        have O5 : Hid (w5.ownsRow w.heap.size 32 3 (.slice (some ⟨gi, 0, none⟩) N ci) N (utf.flat L)) := World.ownsRow.kept (OA.out _ _ _) hgrow5 HAO.out
        have B5 : Hid (Below w.heap.size w w5) := Below.grown (BA.out _ _ _) hgrow5 (by simp; omega) HVB.out
        have hsz5 := B5.out.size
        have HG5 : Hid ((gs ++ [wr.heap.size + 1]).length = k + 1) := by show _ = _; rw [List.length_append, hgs.out]; rfl
        clear hown5 hgrow5 hat5 hlt5 FA PA OA BA hsp
        generalize gs ++ [wr.heap.size + 1] = gs2 at *
        go_wp2_with (at_builtin; refine wpList_append_lies _ rfl _ _ 27 rfl w.heap.size 25 i0 (.slice none 0 0) 1 24 Try.underlying27 hi hz0 hz1 hz2 rfl (by decide) _ (nts (k + 1)).length _ rfl (P5.out.row.alloc _) ⟨w5.heap.size, 0, none⟩ 1 1 [.slice none 0 0] rfl rfl (one_new w5 _) (one_one _ _ _) (by decide) ?f3 ?f4 ?f5 _ rfl ?_)
        case f3 => rw [show (nts (k + 1)).length = k + 1 from by simp [nts]]; unfold maxLen; omega
        case f4 => rw [show (nts (k + 1)).length = k + 1 from by simp [nts]]; omega
        case f5 => simp; omega
        · intro g6 c6 w6 hown6 hgrow6 hat6 hlt6
          have F6 : Hid (FO w6 w.heap.size (.slice (some ⟨g5, 0, none⟩) (gs.length + 1) c5) gs2 (spS (L.take (k + 1)))) := fo_other (F5.out.alloc _) (P5.out.row.alloc _) hgrow6
          have P6 : Hid (TO w w6 w.heap.size (.slice (some ⟨g6, 0, none⟩) ((nts (k + 1)).length + 1) c6) (nts (k + 1 + 1))) := by
            show TO _ _ _ _ _
            rw [← nts_snoc (k + 1)]
            exact TO.snoc HTX.out (nts_mem w 1) hown6
          have O6 : Hid (w6.ownsRow w.heap.size 32 3 (.slice (some ⟨gi, 0, none⟩) N ci) N (utf.flat L)) := World.ownsRow.kept (O5.out.alloc _) hgrow6 (own_apart O5.out P5.out.row (by decide))
          have B6 : Hid (Below w.heap.size w w6) := Below.grown (B5.out.alloc hsz5 _) hgrow6 (by simp; omega) HVP.out
          clear hown6 hgrow6 hat6 hlt6 F5 P5 O5 B5
          generalize (nts (k + 1)).length + 1 = pn at *
          go_wp2
          go_roundw
          case rel => exact ⟨k + 1, gs2, by omega, by go_num, HG5, F6, P6, O6, B6⟩
          case measure => simp [intOf]; omega
    · obtain rfl : k = N := by omega
      have hLk : L.take k = L := List.take_of_length_le (by rw [HN.out]; exact Nat.le_refl _)
      obtain ⟨af, cf, hf, hFS⟩ := FK.out.fs
      rw [hLk] at hf hFS
      have hsl : (spS L).length = k := by rw [← HN.out]; simp [spS]
      rw [hsl] at hf hFS
      subst hf
      have hMS := fs_ms hFS
      rw [spS_spL] at hMS
      obtain ⟨ap, cp, hp, hTV⟩ := PK.out.tv BK.out
      have hpl : (nts (k + 1)).length = k + 1 := by simp [nts]
      rw [hpl] at hp hTV
      rw [nts_snd] at hTV
      subst hp
      have hBr := HB.out.below BK.out
      have hbl := HB.out.len
      have V1 : ordB n (-1, 0) (spL L) = true := by rw [← HL.out]; exact ord_items _ n n (Int.le_refl _) _ 0 rfl (-1, 0) (Int.le_refl 0)
      have V2 : edgB (items (fun i => b.getD i 0) n 0) n (spL L) = true := by rw [← HL.out]; exact edg_items _ n
      have V3 : rebB n b (List.replicate (k + 1) []) (spL L) = true := by
        have h9 := reb_items (fun i => b.getD i 0) n b n (Nat.le_refl _)
        rw [HL.out, HN.out, List.take_of_length_le (by omega), decide_eq_true rfl] at h9
        exact h9
      have V4 : rebB (n + 1) (b ++ [c]) (List.replicate (k + 1) []) (spL L) = false := by
        have h9 := reb_items (fun i => b.getD i 0) n (b ++ [c]) (n + 1) (Nat.le_succ _)
        rw [HL.out, HN.out, decide_eq_false (fun h => by have := congrArg List.length h; simp at this; omega)] at h9
        exact h9
      have V5 : 0 < n → ordB ((n : Int) - 1) (-1, 0) (spL L) = false := fun h => by rw [← HL.out]; exact ord_less _ n _ 0 rfl h (-1, 0)
      have C1 : Hid (∀ W, Below wr.heap.size wr W → Calls Try.prog 8 #[.slice af k cf, .int .i64 n] W fun e w' => e = .returned (.bool true) ∧ Below W.heap.size W w') := fun W hb => by have h9 := ordered_any af k cf _ n W (hMS.below hb); rw [V1] at h9; exact h9
      have C2 : Hid (∀ W, Below wr.heap.size wr W → Calls Try.prog 11 #[.slice ao n cap, .slice af k cf] W fun e w' => e = .returned (.bool true) ∧ Below W.heap.size W w') := fun W hb => by have h9 := edges_any ao n cap b af k cf _ W (hBr.below hb) (hMS.below hb) (by omega); rw [V2] at h9; exact h9
      have C3 : Hid (∀ W, Below wr.heap.size wr W → Calls Try.prog 13 #[.slice ao n cap, .slice ap (k + 1) cp, .slice af k cf] W fun e w' => e = .returned (.bool true) ∧ Below W.heap.size W w') := fun W hb => by have h9 := rebuilt_any ao n cap b ap (k + 1) cp _ af k cf _ W (hBr.below hb) (hTV.below hb) (hMS.below hb) (by omega) (by omega); rw [V3] at h9; exact h9
      have C4 : Hid (∀ W a cc, Below wr.heap.size wr W → BS W a (n + 1) cc (b ++ [c]) → Calls Try.prog 13 #[.slice a (n + 1) cc, .slice ap (k + 1) cp, .slice af k cf] W fun e w' => e = .returned (.bool false) ∧ Below W.heap.size W w') := fun W a cc hb hbs => by have h9 := rebuilt_any a (n + 1) cc (b ++ [c]) ap (k + 1) cp _ af k cf _ W hbs (hTV.below hb) (hMS.below hb) (by omega) (by omega); rw [V4] at h9; exact h9
      have C5 : Hid (0 < n → ∀ W, Below wr.heap.size wr W → Calls Try.prog 8 #[.slice af k cf, .int .i64 ((n : Int) - 1)] W fun e w' => e = .returned (.bool false) ∧ Below W.heap.size W w') := fun h W hb => by have h9 := ordered_any af k cf _ ((n : Int) - 1) W (hMS.below hb); rw [V5 h] at h9; exact h9
      have CL := clone_any ao n cap b wr hBr (by omega)
      have HRG : Hid (∀ i, 0 ≤ (b ++ [c]).getD i 0 ∧ (b ++ [c]).getD i 0 ≤ 255) := range_mem (fun x hx => by
        rcases List.mem_append.1 hx with h | h
        · exact mem_range HB.out.rg x h
        · simp at h; subst h; exact hc)
      have HBL : Hid ((b ++ [c]).length = n + 1) := by show _ = _; rw [List.length_append, hbl]; rfl
      clear V1 V2 V3 V4 V5 hTV hMS hFS hLk hsl hpl hBr hbl FK PK OK
      go_wp2_with fail
      refine CL.mono ?_
      rintro e w2 ⟨ov, rfl, hO, hb2⟩
      have HO2 : Hid (∀ o, OB (w2.alloc o) wr.heap.size ov b) := fun o => hO.below ((Below.refl _ _).alloc (Nat.le_refl _) o)
      have B2 : Hid (∀ o, Below wr.heap.size wr (w2.alloc o)) := fun o => hb2.alloc hb2.size o
      have hs2 := hb2.size
      have HC2 : Hid (BS (w2.alloc (.cells #[.int .u8 c] 5)) (some ⟨w2.heap.size, 0, none⟩) 1 1 [c]) := ⟨rfl, Nat.le_refl _, by omega, (fun e => by cases e), range_mem (fun x hx => by simp at hx; subst hx; exact hc), .inr ⟨w2.heap.size, 0, rfl, fun i hi => by obtain rfl : i = 0 := (by omega); exact (Bk.new w2 _ _).cell 0 rfl⟩⟩
      have HVB : Hid (∀ k, ov.ownBlock = some k → wr.heap.size ≤ k) := fun k e => (World.ownsRow.lt hO k e).1
      have hbn : b.length ≤ 200 := by rw [HB.out.len]; exact hn2
      clear CL hO hb2
      go_wp2_with (at_builtin; refine wpList_app rfl _ _ rfl wr.heap.size ov b rfl (HO2.out _) _ _ _ _ rfl HC2.out (by omega) (by simp; omega) ?_)
      intro v3 w3 hO3 hgr3 _
      have B3 : Hid (Below wr.heap.size wr w3) := Below.grown (B2.out _) hgr3 (by simp; omega) HVB.out
      obtain ⟨oa, oc, e9, hOS⟩ := hO3.bs HRG.out
      subst e9
      rw [HBL.out] at hOS
      have hob : OB w3 wr.heap.size (.slice oa (n + 1) oc) (b ++ [c]) := by rw [HBL.out] at hO3; exact hO3
      rw [HBL.out]
      have HOS : Hid (BS w3 oa (n + 1) oc (b ++ [c])) := hOS
      clear hOS hO3 hgr3 hob HO2 B2 HC2
      have L := C1.out w3 B3.out
      go_wp2_with fail
      refine L.mono ?_
      rintro e w4 ⟨rfl, hb4⟩
      have B4 : Hid (Below wr.heap.size wr w4) := B3.out.trans (hb4.mono B3.out.size)
      have HOS4 : Hid (BS w4 oa (n + 1) oc (b ++ [c])) := HOS.out.below hb4
      clear L hb4 B3
      have L := C2.out w4 B4.out
      go_wp2_with fail
      refine L.mono ?_
      rintro e w5 ⟨rfl, hb5⟩
      have B5 : Hid (Below wr.heap.size wr w5) := B4.out.trans (hb5.mono B4.out.size)
      have HOS5 : Hid (BS w5 oa (n + 1) oc (b ++ [c])) := HOS4.out.below hb5
      clear L hb5 B4
      have L := C3.out w5 B5.out
      go_wp2_with fail
      refine L.mono ?_
      rintro e w6 ⟨rfl, hb6⟩
      have B6 : Hid (Below wr.heap.size wr w6) := B5.out.trans (hb6.mono B5.out.size)
      have HOS6 : Hid (BS w6 oa (n + 1) oc (b ++ [c])) := HOS5.out.below hb6
      clear L hb6 B5
      have L := C4.out w6 oa oc B6.out HOS6.out
      go_wp2_with fail
      refine L.mono ?_
      rintro e w7 ⟨rfl, hb7⟩
      have B7 : Hid (Below wr.heap.size wr w7) := B6.out.trans (hb7.mono B6.out.size)
      clear L hb7 B6
      rcases Nat.eq_zero_or_pos n with h0 | h0
      · subst h0
        go_wp2
        go_ret
        exact ⟨rfl, BK.out.trans (B7.out.mono BK.out.size)⟩
      · have hnz : ((n : Int) == 0) = false := by simp; omega
        have hwn : IntKind.i64.wrap ((n : Int) - 1) = (n : Int) - 1 := by rw [IntKind.wrap_i64]; omega
        have L := C5.out h0 w7 B7.out
        go_wp2_with fail
        refine L.mono ?_
        rintro e w8 ⟨rfl, hb8⟩
        have B8 : Hid (Below wr.heap.size wr w8) := B7.out.trans (hb8.mono B7.out.size)
        clear L hb8 B7
        go_wp2
        go_ret
        exact ⟨rfl, BK.out.trans (B8.out.mono BK.out.size)⟩
end Go.Proofs.Ytpdkdfgcnhcmkaa.aud
