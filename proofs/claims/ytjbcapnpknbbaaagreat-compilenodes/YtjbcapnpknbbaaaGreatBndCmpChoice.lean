/- Texts that the proof leans on, one behind the other. -/
import Derived.Test.YtjbcapnpknbbaaaGreatBndCmpBlk
import Derived.Deep.RegionHeld3
import Derived.Deep.RegionWith
import Derived.Deep.LoopGhost
import Derived.Deep.CutBlock

section
/- choice. -/
set_option linter.unusedVariables false
set_option linter.unusedSimpArgs false
namespace Go.Proofs.YtjbcapnpknbbaaaGreat.cmp
open Go.RowKit nod
open Go.Proofs.YtjbcapnpknbbaaaGreat.rng (R RV info_parts)

def chStep {α : Type} (e : α) (out : Int) (a k : Pc α) : Pc α := putP (addP (putP a [ins e 2 ((a.1.length : Int) + 1) ((a.1.length : Int) + k.1.length + 2)]) k) [ins e 3 out 0]
theorem chGo_last {α : Type} (e : α) (out : Int) (k : Pc α) : ∀ (l : List (Pc α)) (a : Pc α), chGo e out (l ++ [k]) a = addP (l.foldl (chStep e out) a) k
  | [], a => by simp [chGo]
  | [x], a => by simp [chGo, chStep]
  | x :: y :: l, a => by
    rw [List.cons_append, List.cons_append, chGo, ← List.cons_append, chGo_last e out k (y :: l), List.foldl_cons (b := a)]; rfl
  termination_by l => l.length
theorem len_chStep {α : Type} (e : α) (out : Int) (a k : Pc α) : (chStep e out a k).1.length = a.1.length + k.1.length + 2 := by
  simp [chStep, putP, len_addP]; omega
theorem fit_chStep (out : Int) (a k : Pc SV) (ha : FitP a) (hk : FitP k) (h1 : 0 ≤ out ∧ out ≤ 900000) (h2 : k.1.length ≤ 900000) : FitP (putP a [ins sn 2 ((a.1.length : Int) + 1) ((a.1.length : Int) + k.1.length + 2)]) ∧ FitP (chStep sn out a k) := by
  have f1 : FitP (putP a [ins sn 2 ((a.1.length : Int) + 1) ((a.1.length : Int) + k.1.length + 2)]) := fit_put ha fun i hi => by
    simp at hi; subst hi; simp [ins]; omega
  refine ⟨f1, fit_put (fit_add f1 hk) fun i hi => ?_⟩
  simp at hi; subst hi; rw [len_addP]; simp [ins]; omega
theorem lens_snoc {α : Type} (l : List (Pc α)) (k : Pc α) : lensP (l ++ [k]) = lensP l + k.1.length := by simp [lensP]
theorem len_chFold {α : Type} (e : α) (out : Int) : ∀ (l : List (Pc α)) (a : Pc α), (l.foldl (chStep e out) a).1.length = a.1.length + lensP l + 2 * l.length
  | [], a => by simp [lensP]
  | x :: l, a => by rw [List.foldl_cons, len_chFold e out l, len_chStep]; simp [lensP]; omega
theorem fit_chFold (out : Int) (h1 : 0 ≤ out ∧ out ≤ 900000) : ∀ (l : List (Pc SV)) (a : Pc SV), FitP a → (∀ k ∈ l, FitP k ∧ k.1.length ≤ 900000) → FitP (l.foldl (chStep sn out) a)
  | [], a, ha, _ => ha
  | x :: l, a, ha, hl => by
    rw [List.foldl_cons]
    exact fit_chFold out h1 l _ (fit_chStep out a x ha (hl x (by simp)).1 h1 (hl x (by simp)).2).2 fun k hk => hl k (by simp [hk])
/-- A piece in the making: its row's length, and its cells. -/
theorem PS.head {w0 w : World} {pb : Nat} {G : Option Nat} {p : Pc SV} (h : PS w0 w pb G p) : ∃ ao cap, w.cell? ⟨pb, 0, none⟩ = some (.slice ao p.1.length cap) := by
  obtain ⟨v, b, o, _⟩ := h.row
  obtain ⟨ao, cap, rfl, _⟩ := own_cr o rfl
  exact ⟨ao, cap, b.cell 0 rfl⟩
set_option maxRecDepth 10000 in
set_option maxHeartbeats 16000000 in
theorem choice_any (la : Option Addr) (n lc : Nat) (L : List Pp) (k : Pp) (w : World) (hl : L.length = n) (hlc : n + 1 ≤ lc) (hv : LV w la (L ++ [k])) (hq : ∀ q ∈ L ++ [k], PV w 0 q) (hb : lensP (ps (L ++ [k])) + 2 * (n + 1) ≤ 900000) :
    Calls Tryz.prog 93 #[.slice la (n + 1) lc] w fun e w' => ∃ r : Pp, e = .returned (.agg #[.slice r.ka r.kn r.kc, .int .i64 r.p.2]) ∧ r.p = choiceP sn (ps (L ++ [k])) ∧ PV w' w.heap.size r ∧ Below w.heap.size w w' := by
  obtain ⟨M, hM⟩ : ∃ M, L ++ [k] = M := ⟨_, rfl⟩
  rw [hM] at hv hq hb
  have hML : M.length = n + 1 := by rw [← hM]; simp [hl]
  have HLL : Hid (L.length = n) := hl
  have HML : Hid (M.length = n + 1) := hML
  have HB : Hid (lensP (ps M) + 2 * (n + 1) ≤ 900000) := hb
  have hn : n ≤ 450000 := by omega
  have HBW : Hid (Below w.heap.size w (w.alloc (.cells #[.slice none 0 0, .int .i64 0] 55))) := (Below.refl _ w).alloc (Nat.le_refl _) _
  have HR : Hid (Bk (w.alloc (.cells #[.slice none 0 0, .int .i64 0] 55)) w.heap.size #[.slice none 0 0, .int .i64 0] 55) := Bk.new w _ _
  have HLV : Hid (LV w la M) := hv
  have HQV : Hid (∀ q ∈ M, PV w 0 q) := hq
  have hlb : ∃ b off, la = some ⟨b, off, none⟩ ∧ b < w.heap.size := by
    obtain ⟨b, off, e, hlt, _⟩ := hv.pos (by omega)
    exact ⟨b, off, e, hlt⟩
  obtain ⟨lb, lo, rfl, hlb⟩ := hlb
  clear hv hq hb hl hML
  go_enter Tryz.func93, Tryz.ntmps93
  go_wp2
  go_loopg [4, 18] (n + 1) (fun gk v4 i wr => ∃ (j : Nat), j + gk = n + 1 ∧ i = .int .i64 j ∧ v4 = .int .i64 (2 * (n : Int) + lensP (ps (M.take j))) ∧ Hid (Below w.heap.size w wr) ∧ Hid (Bk wr w.heap.size #[.slice none 0 0, .int .i64 0] 55) ∧ w.heap.size < wr.heap.size)
  case atStart => exact ⟨0, by omega, rfl, by simp [ps, lensP], HBW, HR, by simp⟩
  case round =>
    obtain ⟨j, hj, rfl, rfl, HBr, HRr, hsr⟩ := hrel
    clear HBW HR
    by_cases hlt : j < n + 1
    · obtain ⟨q, hq⟩ := getQ HML.out hlt
      have hmem := List.mem_of_getElem? hq
      obtain ⟨b, off, e, _, hc⟩ := (HLV.out.on HBr.out).pos (by have := HML.out; omega)
      cases e
      obtain ⟨y0, y1⟩ := hc j q hq
      have HT : Hid (lensP (ps (M.take (j + 1))) = lensP (ps (M.take j)) + q.kn) := by
        unfold Hid ps; rw [takeQ hq, List.map_append, List.map_cons, List.map_nil, lens_snoc, (HQV.out q hmem).len]
      have h3 : lensP (ps (M.take (j + 1))) ≤ 900000 := by
        have h1 := HB.out; have h2 := lens_take (ps M) (j + 1)
        rw [show (ps M).take (j + 1) = ps (M.take (j + 1)) by simp [ps, List.map_take]] at h2; omega
      rw [HT.out] at h3
      have HBr2 : Hid (Below w.heap.size w (wr.alloc (.cells #[.slice q.ka q.kn q.kc, .int .i64 q.p.2] 55))) := HBr.out.alloc (by omega) _
      have HRr2 : Hid (Bk (wr.alloc (.cells #[.slice q.ka q.kn q.kc, .int .i64 q.p.2] 55)) w.heap.size #[.slice none 0 0, .int .i64 0] 55) := HRr.out.past _
      generalize lensP (ps (M.take j)) = e0 at *
      clear hc hq hmem HBr HRr
      go_wp2
      go_roundg (gk - 1)
      case measure => omega
      case rel => exact ⟨j + 1, by omega, by go_num, by rw [HT.out]; first | rfl | (congr 1; omega), HBr2, HRr2, by simp; omega⟩
    · obtain rfl : j = n + 1 := by omega
      have htk : M.take (n + 1) = M := List.take_of_length_le (by have := HML.out; omega)
      rw [htk]
      obtain ⟨E, hE⟩ : ∃ E : Int, E = 2 * (n : Int) + lensP (ps M) := ⟨_, rfl⟩
      have hE1 : 0 ≤ E ∧ E ≤ 900000 := by have := HB.out; omega
      have HCP : Hid (choiceP sn (ps M) = addP ((ps L).foldl (chStep sn E) ([], 0)) k.p) := by
        unfold Hid choiceP
        rw [show 2 * (((ps M).length : Int) - 1) + lensP (ps M) = E by rw [hE]; simp [ps, HML.out] <;> omega, ← hM]
        simp only [ps, List.map_append, List.map_cons, List.map_nil]
        exact chGo_last sn E k.p (L.map (·.p)) ([], 0)
      obtain ⟨wo, rfl⟩ : ∃ wo : World, wo = wr := ⟨_, rfl⟩
      have HP0 : Hid (PS (wo.alloc (.cells #[.slice none 0 0, .int .i64 0] 55)) (wo.alloc (.cells #[.slice none 0 0, .int .i64 0] 55)) wo.heap.size none ((ps (L.take 0)).foldl (chStep sn E) ([], 0))) := by
        have := PS.new wo
        simpa [Hid, ps] using this
      have HBo : Hid (Below w.heap.size w (wo.alloc (.cells #[.slice none 0 0, .int .i64 0] 55))) := HBr.out.alloc (by omega) _
      have HR2 : Hid (Bk (wo.alloc (.cells #[.slice none 0 0, .int .i64 0] 55)) w.heap.size #[.slice none 0 0, .int .i64 0] 55) := HRr.out.past _
      have HLV2 : Hid (LV (wo.alloc (.cells #[.slice none 0 0, .int .i64 0] 55)) (some ⟨lb, lo, none⟩) M) := HLV.out.on HBo.out
      have HQV2 : Hid (∀ q ∈ M, PV (wo.alloc (.cells #[.slice none 0 0, .int .i64 0] 55)) 0 q) := fun q h => (HQV.out q h).on HBo.out
      have HQB : Hid (∀ q ∈ M, ∀ x, q.ka = some x → x.block < w.heap.size) := fun q h x e => ((HQV.out q h).at_ x e).2
      have HQF : Hid (∀ q ∈ M, FitP q.p ∧ q.p.1.length ≤ 900000) := fun q h => ⟨(HQV.out q h).fit, by
        have h1 := HB.out
        obtain ⟨i, hi, rfl⟩ := List.mem_iff_getElem.1 h
        have h2 := lens_take (ps M) (i + 1)
        rw [show (ps M).take (i + 1) = ps (M.take (i + 1)) by simp [ps, List.map_take], takeQ (List.getElem?_eq_getElem hi)] at h2
        simp only [ps, List.map_append, List.map_cons, List.map_nil, lens_snoc] at h2
        simp only [ps] at h1
        omega⟩
      have hz : (wo.alloc (.cells #[.slice none 0 0, .int .i64 0] 55)).heap.size = wo.heap.size + 1 := by simp
      obtain ⟨wb, hwb⟩ : ∃ wb, wo.alloc (.cells #[.slice none 0 0, .int .i64 0] 55) = wb := ⟨_, rfl⟩
      have HWb : Hid (wo.alloc (.cells #[.slice none 0 0, .int .i64 0] 55) = wb) := hwb
      rw [hwb] at HP0 HBo HR2 HLV2 HQV2 hz
      have HEE : Hid (E = 2 * (n : Int) + lensP (ps M)) := hE
      rw [← hE]
      have HMM : Hid (L ++ [k] = M) := hM
      obtain ⟨hE2, hE3⟩ := hE1
      clear hwb htk hE hM HBr HRr HLV HQV hj hlt
      go_wp2
      rw [HWb.out]
      go_loopg [32] n (fun gk i wr => ∃ (j : Nat), j + gk = n ∧ i = .int .i64 j ∧ Hid (PS wb wr wo.heap.size none ((ps (L.take j)).foldl (chStep sn E) ([], 0))))
      case atStart => exact ⟨0, by omega, rfl, HP0⟩
      case round =>
        obtain ⟨j, hj, rfl, HSr⟩ := hrel
        clear HP0
        by_cases hlt : j < n
        · obtain ⟨q, hq⟩ := getQ HLL.out hlt
          have hqM : M[j]? = some q := by rw [← HMM.out, List.getElem?_append_left (by have := HLL.out; omega)]; exact hq
          have hmem := List.mem_of_getElem? hqM
          obtain ⟨b, off, e, _, hc⟩ := (LV.ps HSr.out HLV2.out (fun x e => ⟨by cases e; simp only; omega, fun e => by cases e⟩)).pos (by have := HML.out; omega)
          cases e
          obtain ⟨y0, y1⟩ := hc j q hqM
          have HT : Hid ((ps (L.take (j + 1))).foldl (chStep sn E) ([], 0) = chStep sn E ((ps (L.take j)).foldl (chStep sn E) ([], 0)) q.p) := by
            unfold Hid ps; rw [takeQ hq, List.map_append, List.foldl_append]; rfl
          have hfa : FitP ((ps (L.take j)).foldl (chStep sn E) ([], 0)) := fit_chFold E ⟨hE2, hE3⟩ _ _ fit_zero fun p hp => by
            obtain ⟨q', h', rfl⟩ := List.mem_map.1 hp
            exact HQF.out q' (by rw [← HMM.out]; exact List.mem_append_left _ (List.mem_of_mem_take h'))
          have hla : ((ps (L.take j)).foldl (chStep sn E) ([], 0)).1.length + q.kn ≤ 900000 := by
            have h1 := HB.out
            have h2 := lens_take (ps M) (j + 1)
            have e3 : M.take (j + 1) = L.take (j + 1) := by rw [← HMM.out, List.take_append_of_le_length (by have := HLL.out; omega)]
            rw [show (ps M).take (j + 1) = ps (M.take (j + 1)) by simp [ps, List.map_take], e3, takeQ hq] at h2
            simp only [ps, List.map_append, List.map_cons, List.map_nil, lens_snoc, (HQV2.out q hmem).len] at h2
            have h3 := len_chFold sn E (ps (L.take j)) ([], 0)
            simp only [ps, List.length_nil, List.length_map, List.length_take] at h3
            have h4 : min j L.length = j := by have := HLL.out; omega
            rw [h4] at h3
            simp only [ps] at h1 ⊢
            omega
          have hfq := HQF.out q hmem
          have HBQ := HQB.out q hmem
          have HPQ := PV.ps HSr.out (HQV2.out q hmem) (fun x e => ⟨by have := HBQ x e; omega, fun e => by cases e⟩)
          generalize (ps (L.take j)).foldl (chStep sn E) ([], 0) = a at *
          obtain ⟨f1, f2⟩ := fit_chStep E a q.p hfa hfq.1 ⟨hE2, hE3⟩ hfq.2
          rw [HPQ.len] at f1
          have PA : PS wb (wr.alloc (.cells #[.slice q.ka q.kn q.kc, .int .i64 q.p.2] 55)) wo.heap.size none a := HSr.out.alloc _
          obtain ⟨G', P2, hG1, hG2⟩ := PA.again
          have HKB : Hid (Bk (wr.alloc (.cells #[.slice q.ka q.kn q.kc, .int .i64 q.p.2] 55)) wr.heap.size #[.slice q.ka q.kn q.kc, .int .i64 q.p.2] 55) := Bk.new wr _ _
          have hGk : some wr.heap.size ≠ G' := hG2 _ _ _ HKB.out (by decide)
          have hws := HSr.out.kq.size
          have hGlow : ∀ x : Nat, x < w.heap.size → some x ≠ G' := fun x hx e => by
            rcases hG1 x e.symm with h | h
            · cases h
            · omega
          obtain ⟨ha, hcp, l0⟩ := P2.head
          have CP := put_ps (P2.alloc (.cells #[.int .i64 2, .int .i64 ((a.1.length : Int) + 1), .int .i64 ((a.1.length : Int) + q.kn + 2), .int .i64 0, .int .i64 0, .slice none 0 0] 66)) (some ⟨wr.heap.size + 1, 0, none⟩) 1 1 [ins sn 2 ((a.1.length : Int) + 1) ((a.1.length : Int) + q.kn + 2)] rfl (cr_bk (by have := Bk.new (wr.alloc (.cells #[.slice q.ka q.kn q.kc, .int .i64 q.p.2] 55)) #[.int .i64 2, .int .i64 ((a.1.length : Int) + 1), .int .i64 ((a.1.length : Int) + q.kn + 2), .int .i64 0, .int .i64 0, .slice none 0 0] 66; simpa [ins, sn] using this)) (fun e => by cases e) (by omega)
          have HCA : Hid (∀ w3, PS (wr.alloc (.cells #[.slice q.ka q.kn q.kc, .int .i64 q.p.2] 55)) w3 wo.heap.size G' (putP a [ins sn 2 ((a.1.length : Int) + 1) ((a.1.length : Int) + q.kn + 2)]) → Calls Tryz.prog 97 #[.pointer (some ⟨wo.heap.size, 0, none⟩), .agg #[.slice q.ka q.kn q.kc, .int .i64 q.p.2]] w3 fun e w' => e = .returned (.tuple #[]) ∧ PS (wr.alloc (.cells #[.slice q.ka q.kn q.kc, .int .i64 q.p.2] 55)) w' wo.heap.size G' (addP (putP a [ins sn 2 ((a.1.length : Int) + 1) ((a.1.length : Int) + q.kn + 2)]) q.p)) := fun w3 P3 =>
            add_ps P3 q.ka q.kn q.kc q.p.2 q.p.1 HPQ.len (P3.cr (HPQ.cr.below ((Below.refl _ wr).alloc (Nat.le_refl _) _)) (fun x e => ⟨by have := HBQ x e; omega, hGlow _ (HBQ x e)⟩)) (fun x e => ⟨by have h1 := HBQ x e; have h2 := P3.kq.size; simp at h2; omega, by have := HBQ x e; omega, far_old P3 (by have h1 := HBQ x e; simp; omega) (hGlow _ (HBQ x e))⟩) hfq.1 f1 (by simp [putP]; omega)
          have HEND : Hid (∀ w5, PS (wr.alloc (.cells #[.slice q.ka q.kn q.kc, .int .i64 q.p.2] 55)) w5 wo.heap.size G' (putP (addP (putP a [ins sn 2 ((a.1.length : Int) + 1) ((a.1.length : Int) + q.kn + 2)]) q.p) [ins sn 3 E 0]) → PS wb w5 wo.heap.size none ((ps (L.take (j + 1))).foldl (chStep sn E) ([], 0))) := fun w5 h => by
            rw [HT.out, chStep, HPQ.len]; exact PA.then hG1 h
          have hlp : (addP (putP a [ins sn 2 ((a.1.length : Int) + 1) ((a.1.length : Int) + q.kn + 2)]) q.p).1.length + 1 ≤ 2000000 := by rw [len_addP, HPQ.len]; simp [putP]; omega
          have HLP : Hid ((addP (putP a [ins sn 2 ((a.1.length : Int) + 1) ((a.1.length : Int) + q.kn + 2)]) q.p).1.length + 1 ≤ 2000000) := hlp
          have HGK : Hid (some wr.heap.size ≠ G') := hGk
          have hne : wr.heap.size ≠ wo.heap.size := by omega
          clear hc hq hqM hmem HT hfa hfq HBQ HPQ f1 f2 P2 hG1 hG2 hGk hGlow PA hlp HSr
          generalize a.1.length = A at *
          go_wp2_with (first
            | (go_at_call 56; refine CP.mono ?_; rintro e w3 ⟨rfl, P3⟩; have HK3 := P3.bk HKB.out hne HGK.out; have k0 := HK3.cell 0 (u := .slice q.ka q.kn q.kc) rfl; have k1 := HK3.cell 1 (u := .int .i64 q.p.2) rfl; have CA := HCA.out w3 P3; clear P3 CP HK3)
            | (go_at_call 97; refine CA.mono ?_; rintro e w4 ⟨rfl, P4⟩; have CP2 := put_ps (P4.alloc (.cells #[.int .i64 3, .int .i64 E, .int .i64 0, .int .i64 0, .int .i64 0, .slice none 0 0] 66)) (some ⟨w4.heap.size, 0, none⟩) 1 1 [ins sn 3 E 0] rfl (cr_bk (Bk.new w4 _ _)) (fun e => by cases e) HLP.out; clear P4 CA)
            | (go_at_call 56; refine CP2.mono ?_; rintro e w5 ⟨rfl, P5⟩; have HS5 : Hid (PS wb w5 wo.heap.size none ((ps (L.take (j + 1))).foldl (chStep sn E) ([], 0))) := HEND.out w5 P5; clear P5 CP2))
          go_roundg (gk - 1)
          case measure => omega
          case rel => exact ⟨j + 1, by omega, by go_num, HS5⟩
        · obtain rfl : j = n := by omega
          have htk : L.take j = L := List.take_of_length_le (by have := HLL.out; omega)
          rw [htk] at HSr
          have hkM : M[j]? = some k := by rw [← HMM.out, List.getElem?_append_right (by have := HLL.out; omega), HLL.out]; simp
          have hmem := List.mem_of_getElem? hkM
          obtain ⟨b, off, e, _, hc⟩ := (LV.ps HSr.out HLV2.out (fun x e => ⟨by cases e; simp only; omega, fun e => by cases e⟩)).pos (by have := HML.out; omega)
          cases e
          obtain ⟨y0, y1⟩ := hc j k hkM
          have hfa : FitP ((ps L).foldl (chStep sn E) ([], 0)) := fit_chFold E ⟨hE2, hE3⟩ _ _ fit_zero fun p hp => by
            obtain ⟨q', h', rfl⟩ := List.mem_map.1 hp
            exact HQF.out q' (by rw [← HMM.out]; exact List.mem_append_left _ h')
          have HBQ := HQB.out k hmem
          have HPQ := PV.ps HSr.out (HQV2.out k hmem) (fun x e => ⟨by have := HBQ x e; omega, fun e => by cases e⟩)
          have hla : ((ps L).foldl (chStep sn E) ([], 0)).1.length + k.kn ≤ 900000 := by
            have h1 := HB.out
            rw [← HMM.out] at h1
            have h3 := len_chFold sn E (ps L) ([], 0)
            simp only [ps, List.map_append, List.map_cons, List.map_nil, lens_snoc, HPQ.len] at h1
            simp only [ps, List.length_nil, List.length_map, HLL.out] at h3
            simp only [ps]
            omega
          have CA := add_ps HSr.out k.ka k.kn k.kc k.p.2 k.p.1 HPQ.len HPQ.cr (fun x e => ⟨(HPQ.at_ x e).2, by have := HBQ x e; omega, far_old HSr.out (by have := HBQ x e; omega) (fun e => by cases e)⟩) HPQ.fit hfa (by omega)
          rw [show ((k.p.1, k.p.2) : Pc SV) = k.p from rfl, ← HCP.out] at CA
          have HFC : Hid (FitP (choiceP sn (ps M))) := by unfold Hid; rw [HCP.out]; exact fit_add hfa HPQ.fit
          clear htk hkM hmem hc hfa HBQ HPQ hla HSr HCP
          go_wp2_with (go_at_call 97; refine CA.mono ?_; rintro e w5 ⟨rfl, h5⟩; obtain ⟨r, hrp, hbk, hpv⟩ := h5.out HFC.out; have r0 := hbk.cell 0 (u := .slice r.ka r.kn r.kc) rfl; have r1 := hbk.cell 1 (u := .int .i64 (choiceP sn (ps M)).2) rfl; rw [← hrp] at r1; have HR5 : Hid (Bk w5 w.heap.size #[.slice none 0 0, .int .i64 0] 55) := h5.bk HR2.out (by omega) (fun e => by cases e); have t0 := HR5.out.cell 0 (u := .slice none 0 0) rfl; have t1 := HR5.out.cell 1 (u := .int .i64 0) rfl; have f0 := HR5.out.frozen 0; have f1 := HR5.out.frozen 1; have HPR : Hid (r.p = choiceP sn (ps M) ∧ PV w5 wb.heap.size r) := ⟨hrp, hpv⟩; have HB5 : Hid (Below w.heap.size w w5) := HBo.out.trans (h5.kq.below (by omega) (fun x s => by rcases s with s | s; omega; cases s)); clear h5 hrp hbk hpv CA)
          refine bodyPost_ret (results_cell_row Tryz.results93 _ _ w.heap.size _ #[.slice r.ka r.kn r.kc, .int .i64 r.p.2] _ _ rfl (HR5.out.set2 _ _) Tryz.underlying55 rfl infP) rfl ?_
          exact ⟨r, rfl, by rw [HMM.out]; exact HPR.out.1, ((HPR.out.2.set (by omega) 0 _).set (by omega) 1 _).wide (by omega), (HB5.out.setCell (p := ⟨w.heap.size, 0, none⟩) (by simp) _).setCell (p := ⟨w.heap.size, 1, none⟩) (by simp) _⟩
end Go.Proofs.YtjbcapnpknbbaaaGreat.cmp
end

section
/- repeated. -/
set_option linter.unusedVariables false
set_option linter.unusedSimpArgs false
namespace Go.Proofs.YtjbcapnpknbbaaaGreat.cmp
open Go.RowKit nod
open Go.Proofs.YtjbcapnpknbbaaaGreat.rng (R RV info_parts)

theorem fit_times {α : Type} {k : Pc α} (hk : FitP k) : ∀ n, FitP (timesP n k)
  | 0 => fit_zero
  | n + 1 => fit_add (fit_times hk n) hk
def stepM {α : Type} (e : α) (mode out : Int) (k s : Pc α) : Pc α := addP (putP s [splitI e mode ((s.1.length : Int) + 1) out]) k
theorem mayP_end {α : Type} (e : α) (mode out : Int) (k : Pc α) : ∀ (n : Nat) (a : Pc α), mayP e mode out k (n + 1) a = stepM e mode out k (mayP e mode out k n a)
  | 0, a => rfl
  | n + 1, a => by rw [mayP, mayP_end e mode out k n]; rfl
theorem fit_stepM (mode out : Int) (k s : Pc SV) (hk : FitP k) (hs : FitP s) (ho : 0 ≤ out ∧ out ≤ 1000000) : FitP (putP s [splitI sn mode ((s.1.length : Int) + 1) out]) ∧ FitP (stepM sn mode out k s) := by
  have f : FitP (putP s [splitI sn mode ((s.1.length : Int) + 1) out]) := fit_put hs fun i hi => by
    simp at hi; subst hi
    exact split_fit _ _ _ _ ⟨by omega, by simp; omega⟩ ⟨by omega, by simp; omega⟩
  exact ⟨f, fit_add f hk⟩
theorem fit_may (mode out : Int) (k : Pc SV) (hk : FitP k) (ho : 0 ≤ out ∧ out ≤ 1000000) : ∀ (n : Nat) (a : Pc SV), FitP a → FitP (mayP sn mode out k n a)
  | 0, a, h => h
  | n + 1, a, h => by rw [mayP_end]; exact (fit_stepM mode out k _ hk (fit_may mode out k hk ho n a h) ho).2
set_option maxRecDepth 10000 in
set_option maxHeartbeats 16000000 in
theorem rep_loop (k m : Int) (a : Nat) (g : Bool) (s : ByteArray) (sa : Option Addr) (sl sc : Nat) (ao : Option Addr) (nk cap : Nat) (q : Pp) (w : World) (hm : ¬ m = 2) (ha : a ≤ 100) (hq : PV w 0 q) (hb : q.kn ≤ 5000) :
    Calls Tryz.prog 94 #[.agg #[.int .i64 k, .int .i64 m, .int .i64 (a : Int), .int .i64 (-1), .bool g, .string s, .slice sa sl sc, .slice ao nk cap], .agg #[.slice q.ka q.kn q.kc, .int .i64 q.p.2]] w fun e w' => ∃ r : Pp, e = .returned (.agg #[.slice r.ka r.kn r.kc, .int .i64 r.p.2]) ∧ r.p = repP sn m (a : Int) (-1) q.p ∧ PV w' w.heap.size r ∧ Below w.heap.size w w' := by
  obtain ⟨ka, kn, kc, p⟩ := q
  have hlen := hq.len
  have hka := hq.at_
  have hfit := hq.fit
  simp only at *
  have HFP : Hid (FitP p) := hfit
  have HBW : Hid (Below w.heap.size w ((((w.alloc (.cells #[.int .i64 k, .int .i64 m, .int .i64 (a : Int), .int .i64 (-1), .bool g, .string s, .slice sa sl sc, .slice ao nk cap] 25)).alloc (.cells #[.slice ka kn kc, .int .i64 p.2] 55)).alloc (.cells #[.slice none 0 0, .int .i64 0] 55)).alloc (.cells #[.slice none 0 0, .int .i64 0] 55))) := (below2 _ _ _).trans ((below2 _ _ _).mono (by simp; omega))
  have HNX : Hid (Bk ((((w.alloc (.cells #[.int .i64 k, .int .i64 m, .int .i64 (a : Int), .int .i64 (-1), .bool g, .string s, .slice sa sl sc, .slice ao nk cap] 25)).alloc (.cells #[.slice ka kn kc, .int .i64 p.2] 55)).alloc (.cells #[.slice none 0 0, .int .i64 0] 55)).alloc (.cells #[.slice none 0 0, .int .i64 0] 55)) w.heap.size #[.int .i64 k, .int .i64 m, .int .i64 (a : Int), .int .i64 (-1), .bool g, .string s, .slice sa sl sc, .slice ao nk cap] 25) := (((Bk.new w _ _).past _).past _).past _
  have HKX : Hid (Bk ((((w.alloc (.cells #[.int .i64 k, .int .i64 m, .int .i64 (a : Int), .int .i64 (-1), .bool g, .string s, .slice sa sl sc, .slice ao nk cap] 25)).alloc (.cells #[.slice ka kn kc, .int .i64 p.2] 55)).alloc (.cells #[.slice none 0 0, .int .i64 0] 55)).alloc (.cells #[.slice none 0 0, .int .i64 0] 55)) (w.heap.size + 1) #[.slice ka kn kc, .int .i64 p.2] 55) := (bk2.past _).past _
  have HR : Hid (Bk ((((w.alloc (.cells #[.int .i64 k, .int .i64 m, .int .i64 (a : Int), .int .i64 (-1), .bool g, .string s, .slice sa sl sc, .slice ao nk cap] 25)).alloc (.cells #[.slice ka kn kc, .int .i64 p.2] 55)).alloc (.cells #[.slice none 0 0, .int .i64 0] 55)).alloc (.cells #[.slice none 0 0, .int .i64 0] 55)) (w.heap.size + 1 + 1) #[.slice none 0 0, .int .i64 0] 55) := by
    have := (Bk.new ((w.alloc (.cells #[.int .i64 k, .int .i64 m, .int .i64 (a : Int), .int .i64 (-1), .bool g, .string s, .slice sa sl sc, .slice ao nk cap] 25)).alloc (.cells #[.slice ka kn kc, .int .i64 p.2] 55)) #[.slice none 0 0, .int .i64 0] 55).past (.cells #[.slice none 0 0, .int .i64 0] 55)
    simpa [Hid] using this
  have HP0 : Hid (PS ((((w.alloc (.cells #[.int .i64 k, .int .i64 m, .int .i64 (a : Int), .int .i64 (-1), .bool g, .string s, .slice sa sl sc, .slice ao nk cap] 25)).alloc (.cells #[.slice ka kn kc, .int .i64 p.2] 55)).alloc (.cells #[.slice none 0 0, .int .i64 0] 55)).alloc (.cells #[.slice none 0 0, .int .i64 0] 55)) ((((w.alloc (.cells #[.int .i64 k, .int .i64 m, .int .i64 (a : Int), .int .i64 (-1), .bool g, .string s, .slice sa sl sc, .slice ao nk cap] 25)).alloc (.cells #[.slice ka kn kc, .int .i64 p.2] 55)).alloc (.cells #[.slice none 0 0, .int .i64 0] 55)).alloc (.cells #[.slice none 0 0, .int .i64 0] 55)) (w.heap.size + 1 + 1 + 1) none (timesP 0 p)) := by
    have := PS.new (((w.alloc (.cells #[.int .i64 k, .int .i64 m, .int .i64 (a : Int), .int .i64 (-1), .bool g, .string s, .slice sa sl sc, .slice ao nk cap] 25)).alloc (.cells #[.slice ka kn kc, .int .i64 p.2] 55)).alloc (.cells #[.slice none 0 0, .int .i64 0] 55))
    simpa [Hid, timesP] using this
  have HQ : Hid (CR ((((w.alloc (.cells #[.int .i64 k, .int .i64 m, .int .i64 (a : Int), .int .i64 (-1), .bool g, .string s, .slice sa sl sc, .slice ao nk cap] 25)).alloc (.cells #[.slice ka kn kc, .int .i64 p.2] 55)).alloc (.cells #[.slice none 0 0, .int .i64 0] 55)).alloc (.cells #[.slice none 0 0, .int .i64 0] 55)) ka p.1) := hq.cr.below HBW.out
  have HKA : Hid (∀ x, ka = some x → x.block < w.heap.size) := fun x e => (hka x e).2
  have HLN : Hid (p.1.length = kn) := hlen
  have hz : ((((w.alloc (.cells #[.int .i64 k, .int .i64 m, .int .i64 (a : Int), .int .i64 (-1), .bool g, .string s, .slice sa sl sc, .slice ao nk cap] 25)).alloc (.cells #[.slice ka kn kc, .int .i64 p.2] 55)).alloc (.cells #[.slice none 0 0, .int .i64 0] 55)).alloc (.cells #[.slice none 0 0, .int .i64 0] 55)).heap.size = w.heap.size + 1 + 1 + 1 + 1 := by simp
  have fm : (m == 2) = false := by simpa using hm
  clear hq hlen hka hfit hm
  have n1 := HNX.out.cell 1 (u := .int .i64 m) rfl
  have n2 := HNX.out.cell 2 (u := .int .i64 a) rfl
  have n3 := HNX.out.cell 3 (u := .int .i64 (-1)) rfl
  have hba : a * kn ≤ 500000 := by
    have := Nat.mul_le_mul ha hb; omega
  have HBA : Hid (a * kn ≤ 500000) := hba
  clear hba
  generalize hW1 : ((((w.alloc (.cells #[.int .i64 k, .int .i64 m, .int .i64 (a : Int), .int .i64 (-1), .bool g, .string s, .slice sa sl sc, .slice ao nk cap] 25)).alloc (.cells #[.slice ka kn kc, .int .i64 p.2] 55)).alloc (.cells #[.slice none 0 0, .int .i64 0] 55)).alloc (.cells #[.slice none 0 0, .int .i64 0] 55)) = w1 at *
  have HW1 : Hid (((((w.alloc (.cells #[.int .i64 k, .int .i64 m, .int .i64 (a : Int), .int .i64 (-1), .bool g, .string s, .slice sa sl sc, .slice ao nk cap] 25)).alloc (.cells #[.slice ka kn kc, .int .i64 p.2] 55)).alloc (.cells #[.slice none 0 0, .int .i64 0] 55)).alloc (.cells #[.slice none 0 0, .int .i64 0] 55)) = w1) := hW1
  go_enter Tryz.func94, Tryz.ntmps94
  go_wp2
  try rw [HW1.out]
  clear hW1 HW1
  go_loopg [18] a (fun gk i wr => ∃ (j : Nat), j + gk = a ∧ i = .int .i64 j ∧ Hid (PS w1 wr (w.heap.size + 1 + 1 + 1) none (timesP j p)))
  case atStart => exact ⟨0, by omega, rfl, HP0⟩
  case round =>
    obtain ⟨j, hj, rfl, HSr⟩ := hrel
    clear HP0 n1 n2 n3
    by_cases hlt : j < a
    · have HK3 := HSr.out.bk HKX.out (by omega) (fun e => by cases e)
      have k0 := HK3.cell 0 (u := .slice ka kn kc) rfl
      have k1 := HK3.cell 1 (u := .int .i64 p.2) rfl
      have hl2 : (timesP j p).1.length + kn ≤ 1000000 := by
        rw [len_timesP, HLN.out]
        have h1 := HBA.out
        have : j * kn ≤ a * kn := Nat.mul_le_mul_right _ (by omega)
        omega
      have CA := add_ps HSr.out ka kn kc p.2 p.1 HLN.out (HSr.out.cr HQ.out (fun x e => ⟨by have := HKA.out x e; omega, fun e => by cases e⟩)) (fun x e => ⟨by have h1 := HKA.out x e; have h2 := HSr.out.kq.size; omega, by have := HKA.out x e; omega, far_old HSr.out (by have := HKA.out x e; omega) (fun e => by cases e)⟩) HFP.out (fit_times HFP.out j) hl2
      have HT : Hid (addP (timesP j p) (p.1, p.2) = timesP (j + 1) p) := rfl
      rw [HT.out] at CA
      clear HK3 hl2 HSr HT
      go_wp2_with (go_at_call 97; refine CA.mono ?_; rintro e w2 ⟨rfl, h2⟩; have HS2 : Hid (PS w1 w2 (w.heap.size + 1 + 1 + 1) none (timesP (j + 1) p)) := h2; clear h2 CA)
      go_roundg (gk - 1)
      case measure => omega
      case rel => exact ⟨j + 1, by omega, by go_num, HS2⟩
    · obtain rfl : j = a := by omega
      have HN5 := HSr.out.bk HNX.out (by omega) (fun e => by cases e)
      have n1 := HN5.cell 1 (u := .int .i64 m) rfl
      have n2 := HN5.cell 2 (u := .int .i64 j) rfl
      have n3 := HN5.cell 3 (u := .int .i64 (-1)) rfl
      have HK5 := HSr.out.bk HKX.out (by omega) (fun e => by cases e)
      have k0 := HK5.cell 0 (u := .slice ka kn kc) rfl
      have k1 := HK5.cell 1 (u := .int .i64 p.2) rfl
      clear HN5 HK5
      have HRP : Hid (repP sn m (j : Int) (-1) p = addP (timesP j p) (loopP sn m p)) := by unfold Hid repP; rw [if_pos rfl]; simp
      have HFR : Hid (FitP (addP (timesP j p) (loopP sn m p))) := fit_add (fit_times HFP.out j) (fit_loop m p HFP.out (by have := HLN.out; omega)).2
      have CL := loop_any m ⟨ka, kn, kc, p⟩ wr ⟨HLN.out, HSr.out.cr HQ.out (fun x e => ⟨by have := HKA.out x e; omega, fun e => by cases e⟩), fun x e => ⟨Nat.zero_le _, by have h1 := HKA.out x e; have h2 := HSr.out.kq.size; omega⟩, HFP.out⟩ (by simp only; omega)
      simp only at CL
      go_wp2_with (first
        | (go_at_call 99; refine CL.mono ?_; rintro e w2 ⟨r2, rfl, hr2, hv2, b2⟩; have P2 := HSr.out.on b2; have CA := add_ps P2 r2.ka r2.kn r2.kc r2.p.2 r2.p.1 hv2.len hv2.cr (fun x e => ⟨(hv2.at_ x e).2, by have h1 := (hv2.at_ x e).1; have h2 := HSr.out.kq.size; omega, far_new HSr.out b2 (hv2.at_ x e).1⟩) hv2.fit (fit_times HFP.out j) (by have h1 := HBA.out; have h3 := hv2.len; rw [hr2, len_loopP, HLN.out] at h3; rw [len_timesP, HLN.out]; omega); rw [show ((r2.p.1, r2.p.2) : Pc SV) = r2.p from rfl, hr2] at CA; rw [hr2]; clear CL P2 hv2 b2)
        | (go_at_call 97; refine CA.mono ?_; rintro e w5 ⟨rfl, h5⟩; obtain ⟨r, hrp, hbk, hpv⟩ := h5.out HFR.out; have r0 := hbk.cell 0 (u := .slice r.ka r.kn r.kc) rfl; have r1 := hbk.cell 1 (u := .int .i64 (addP (timesP j p) (loopP sn m p)).2) rfl; rw [← hrp] at r1; have HR5 : Hid (Bk w5 (w.heap.size + 1 + 1) #[.slice none 0 0, .int .i64 0] 55) := h5.bk HR.out (by omega) (fun e => by cases e); have t0 := HR5.out.cell 0 (u := .slice none 0 0) rfl; have t1 := HR5.out.cell 1 (u := .int .i64 0) rfl; have f0 := HR5.out.frozen 0; have f1 := HR5.out.frozen 1; have HPR : Hid (r.p = addP (timesP j p) (loopP sn m p) ∧ PV w5 w1.heap.size r) := ⟨hrp, hpv⟩; have HB5 : Hid (Below w.heap.size w w5) := HBW.out.trans (h5.kq.below (by omega) (fun x s => by rcases s with s | s; omega; cases s)); clear h5 hrp hbk hpv CA))
      refine bodyPost_ret (results_cell_row Tryz.results94 _ _ (w.heap.size + 1 + 1) _ #[.slice r.ka r.kn r.kc, .int .i64 r.p.2] _ _ rfl (HR5.out.set2 _ _) Tryz.underlying55 rfl infP) rfl ?_
      exact ⟨r, rfl, by rw [HRP.out]; exact HPR.out.1, ((HPR.out.2.set (by omega) 0 _).set (by omega) 1 _).wide (by omega), (HB5.out.setCell (p := ⟨w.heap.size + 1 + 1, 0, none⟩) (by simp; omega) _).setCell (p := ⟨w.heap.size + 1 + 1, 1, none⟩) (by simp; omega) _⟩
set_option maxRecDepth 10000 in
set_option maxHeartbeats 16000000 in
theorem rep_times (k m : Int) (a c : Nat) (g : Bool) (s : ByteArray) (sa : Option Addr) (sl sc : Nat) (ao : Option Addr) (nk cap : Nat) (q : Pp) (w : World) (hm : ¬ m = 2) (ha : a ≤ 100) (hc : a + c ≤ 100) (hq : PV w 0 q) (hb : q.kn ≤ 5000) :
    Calls Tryz.prog 94 #[.agg #[.int .i64 k, .int .i64 m, .int .i64 (a : Int), .int .i64 ((a : Int) + (c : Int)), .bool g, .string s, .slice sa sl sc, .slice ao nk cap], .agg #[.slice q.ka q.kn q.kc, .int .i64 q.p.2]] w fun e w' => ∃ r : Pp, e = .returned (.agg #[.slice r.ka r.kn r.kc, .int .i64 r.p.2]) ∧ r.p = repP sn m (a : Int) ((a : Int) + (c : Int)) q.p ∧ PV w' w.heap.size r ∧ Below w.heap.size w w' := by
  obtain ⟨ka, kn, kc, p⟩ := q
  have hlen := hq.len
  have hka := hq.at_
  have hfit := hq.fit
  simp only at *
  have HFP : Hid (FitP p) := hfit
  have HBW : Hid (Below w.heap.size w ((((w.alloc (.cells #[.int .i64 k, .int .i64 m, .int .i64 (a : Int), .int .i64 ((a : Int) + (c : Int)), .bool g, .string s, .slice sa sl sc, .slice ao nk cap] 25)).alloc (.cells #[.slice ka kn kc, .int .i64 p.2] 55)).alloc (.cells #[.slice none 0 0, .int .i64 0] 55)).alloc (.cells #[.slice none 0 0, .int .i64 0] 55))) := (below2 _ _ _).trans ((below2 _ _ _).mono (by simp; omega))
  have HNX : Hid (Bk ((((w.alloc (.cells #[.int .i64 k, .int .i64 m, .int .i64 (a : Int), .int .i64 ((a : Int) + (c : Int)), .bool g, .string s, .slice sa sl sc, .slice ao nk cap] 25)).alloc (.cells #[.slice ka kn kc, .int .i64 p.2] 55)).alloc (.cells #[.slice none 0 0, .int .i64 0] 55)).alloc (.cells #[.slice none 0 0, .int .i64 0] 55)) w.heap.size #[.int .i64 k, .int .i64 m, .int .i64 (a : Int), .int .i64 ((a : Int) + (c : Int)), .bool g, .string s, .slice sa sl sc, .slice ao nk cap] 25) := (((Bk.new w _ _).past _).past _).past _
  have HKX : Hid (Bk ((((w.alloc (.cells #[.int .i64 k, .int .i64 m, .int .i64 (a : Int), .int .i64 ((a : Int) + (c : Int)), .bool g, .string s, .slice sa sl sc, .slice ao nk cap] 25)).alloc (.cells #[.slice ka kn kc, .int .i64 p.2] 55)).alloc (.cells #[.slice none 0 0, .int .i64 0] 55)).alloc (.cells #[.slice none 0 0, .int .i64 0] 55)) (w.heap.size + 1) #[.slice ka kn kc, .int .i64 p.2] 55) := (bk2.past _).past _
  have HR : Hid (Bk ((((w.alloc (.cells #[.int .i64 k, .int .i64 m, .int .i64 (a : Int), .int .i64 ((a : Int) + (c : Int)), .bool g, .string s, .slice sa sl sc, .slice ao nk cap] 25)).alloc (.cells #[.slice ka kn kc, .int .i64 p.2] 55)).alloc (.cells #[.slice none 0 0, .int .i64 0] 55)).alloc (.cells #[.slice none 0 0, .int .i64 0] 55)) (w.heap.size + 1 + 1) #[.slice none 0 0, .int .i64 0] 55) := by
    have := (Bk.new ((w.alloc (.cells #[.int .i64 k, .int .i64 m, .int .i64 (a : Int), .int .i64 ((a : Int) + (c : Int)), .bool g, .string s, .slice sa sl sc, .slice ao nk cap] 25)).alloc (.cells #[.slice ka kn kc, .int .i64 p.2] 55)) #[.slice none 0 0, .int .i64 0] 55).past (.cells #[.slice none 0 0, .int .i64 0] 55)
    simpa [Hid] using this
  have HP0 : Hid (PS ((((w.alloc (.cells #[.int .i64 k, .int .i64 m, .int .i64 (a : Int), .int .i64 ((a : Int) + (c : Int)), .bool g, .string s, .slice sa sl sc, .slice ao nk cap] 25)).alloc (.cells #[.slice ka kn kc, .int .i64 p.2] 55)).alloc (.cells #[.slice none 0 0, .int .i64 0] 55)).alloc (.cells #[.slice none 0 0, .int .i64 0] 55)) ((((w.alloc (.cells #[.int .i64 k, .int .i64 m, .int .i64 (a : Int), .int .i64 ((a : Int) + (c : Int)), .bool g, .string s, .slice sa sl sc, .slice ao nk cap] 25)).alloc (.cells #[.slice ka kn kc, .int .i64 p.2] 55)).alloc (.cells #[.slice none 0 0, .int .i64 0] 55)).alloc (.cells #[.slice none 0 0, .int .i64 0] 55)) (w.heap.size + 1 + 1 + 1) none (timesP 0 p)) := by
    have := PS.new (((w.alloc (.cells #[.int .i64 k, .int .i64 m, .int .i64 (a : Int), .int .i64 ((a : Int) + (c : Int)), .bool g, .string s, .slice sa sl sc, .slice ao nk cap] 25)).alloc (.cells #[.slice ka kn kc, .int .i64 p.2] 55)).alloc (.cells #[.slice none 0 0, .int .i64 0] 55))
    simpa [Hid, timesP] using this
  have HQ : Hid (CR ((((w.alloc (.cells #[.int .i64 k, .int .i64 m, .int .i64 (a : Int), .int .i64 ((a : Int) + (c : Int)), .bool g, .string s, .slice sa sl sc, .slice ao nk cap] 25)).alloc (.cells #[.slice ka kn kc, .int .i64 p.2] 55)).alloc (.cells #[.slice none 0 0, .int .i64 0] 55)).alloc (.cells #[.slice none 0 0, .int .i64 0] 55)) ka p.1) := hq.cr.below HBW.out
  have HKA : Hid (∀ x, ka = some x → x.block < w.heap.size) := fun x e => (hka x e).2
  have HLN : Hid (p.1.length = kn) := hlen
  have hz : ((((w.alloc (.cells #[.int .i64 k, .int .i64 m, .int .i64 (a : Int), .int .i64 ((a : Int) + (c : Int)), .bool g, .string s, .slice sa sl sc, .slice ao nk cap] 25)).alloc (.cells #[.slice ka kn kc, .int .i64 p.2] 55)).alloc (.cells #[.slice none 0 0, .int .i64 0] 55)).alloc (.cells #[.slice none 0 0, .int .i64 0] 55)).heap.size = w.heap.size + 1 + 1 + 1 + 1 := by simp
  have fm : (m == 2) = false := by simpa using hm
  clear hq hlen hka hfit hm
  have n1 := HNX.out.cell 1 (u := .int .i64 m) rfl
  have n2 := HNX.out.cell 2 (u := .int .i64 a) rfl
  have n3 := HNX.out.cell 3 (u := .int .i64 ((a : Int) + (c : Int))) rfl
  have hba : a * kn ≤ 500000 := by
    have := Nat.mul_le_mul ha hb; omega
  have HBA : Hid (a * kn ≤ 500000) := hba
  clear hba
  generalize hW1 : ((((w.alloc (.cells #[.int .i64 k, .int .i64 m, .int .i64 (a : Int), .int .i64 ((a : Int) + (c : Int)), .bool g, .string s, .slice sa sl sc, .slice ao nk cap] 25)).alloc (.cells #[.slice ka kn kc, .int .i64 p.2] 55)).alloc (.cells #[.slice none 0 0, .int .i64 0] 55)).alloc (.cells #[.slice none 0 0, .int .i64 0] 55)) = w1 at *
  have HW1 : Hid (((((w.alloc (.cells #[.int .i64 k, .int .i64 m, .int .i64 (a : Int), .int .i64 ((a : Int) + (c : Int)), .bool g, .string s, .slice sa sl sc, .slice ao nk cap] 25)).alloc (.cells #[.slice ka kn kc, .int .i64 p.2] 55)).alloc (.cells #[.slice none 0 0, .int .i64 0] 55)).alloc (.cells #[.slice none 0 0, .int .i64 0] 55)) = w1) := hW1
  go_enter Tryz.func94, Tryz.ntmps94
  go_wp2
  try rw [HW1.out]
  clear hW1 HW1
  go_loopg [18] a (fun gk i wr => ∃ (j : Nat), j + gk = a ∧ i = .int .i64 j ∧ Hid (PS w1 wr (w.heap.size + 1 + 1 + 1) none (timesP j p)))
  case atStart => exact ⟨0, by omega, rfl, HP0⟩
  case round =>
    obtain ⟨j, hj, rfl, HSr⟩ := hrel
    clear HP0 n1 n2 n3
    by_cases hlt : j < a
    · have HK3 := HSr.out.bk HKX.out (by omega) (fun e => by cases e)
      have k0 := HK3.cell 0 (u := .slice ka kn kc) rfl
      have k1 := HK3.cell 1 (u := .int .i64 p.2) rfl
      have hl2 : (timesP j p).1.length + kn ≤ 1000000 := by
        rw [len_timesP, HLN.out]
        have h1 := HBA.out
        have : j * kn ≤ a * kn := Nat.mul_le_mul_right _ (by omega)
        omega
      have CA := add_ps HSr.out ka kn kc p.2 p.1 HLN.out (HSr.out.cr HQ.out (fun x e => ⟨by have := HKA.out x e; omega, fun e => by cases e⟩)) (fun x e => ⟨by have h1 := HKA.out x e; have h2 := HSr.out.kq.size; omega, by have := HKA.out x e; omega, far_old HSr.out (by have := HKA.out x e; omega) (fun e => by cases e)⟩) HFP.out (fit_times HFP.out j) hl2
      have HT : Hid (addP (timesP j p) (p.1, p.2) = timesP (j + 1) p) := rfl
      rw [HT.out] at CA
      clear HK3 hl2 HSr HT
      go_wp2_with (go_at_call 97; refine CA.mono ?_; rintro e w2 ⟨rfl, h2⟩; have HS2 : Hid (PS w1 w2 (w.heap.size + 1 + 1 + 1) none (timesP (j + 1) p)) := h2; clear h2 CA)
      go_roundg (gk - 1)
      case measure => omega
      case rel => exact ⟨j + 1, by omega, by go_num, HS2⟩
    · obtain rfl : j = a := by omega
      have HN5 := HSr.out.bk HNX.out (by omega) (fun e => by cases e)
      have n1 := HN5.cell 1 (u := .int .i64 m) rfl
      have n2 := HN5.cell 2 (u := .int .i64 j) rfl
      have n3 := HN5.cell 3 (u := .int .i64 ((j : Int) + (c : Int))) rfl
      have HK5 := HSr.out.bk HKX.out (by omega) (fun e => by cases e)
      have k0 := HK5.cell 0 (u := .slice ka kn kc) rfl
      have k1 := HK5.cell 1 (u := .int .i64 p.2) rfl
      clear HN5 HK5
      have hac : j * kn + c * (kn + 1) ≤ 501000 := by
        have h1 : j * kn + c * (kn + 1) = (j + c) * kn + c := by rw [Nat.add_mul, Nat.mul_add]; omega
        have h2 := Nat.mul_le_mul hc hb
        omega
      obtain ⟨P1, hP1⟩ : ∃ P1 : Int, (j : Int) * (kn : Int) = P1 := ⟨_, rfl⟩
      obtain ⟨P2, hP2⟩ : ∃ P2 : Int, (c : Int) * ((kn : Int) + 1) = P2 := ⟨_, rfl⟩
      have eP : P1 + P2 = ((j * kn + c * (kn + 1) : Nat) : Int) := by rw [← hP1, ← hP2]; push_cast; rfl
      have hP1b : 0 ≤ P1 ∧ P1 ≤ 501000 := by
        have h1 : P1 = ((j * kn : Nat) : Int) := by rw [← hP1]; push_cast; rfl
        omega
      have hP2b : 0 ≤ P2 ∧ P2 ≤ 501000 := by
        have h1 : P2 = ((c * (kn + 1) : Nat) : Int) := by rw [← hP2]; push_cast; rfl
        omega
      obtain ⟨E, hE⟩ : ∃ E : Int, P1 + P2 = E := ⟨_, rfl⟩
      have hEb : 0 ≤ E ∧ E ≤ 501000 := by omega
      have m1 : IntKind.i64.wrap ((j : Int) * (kn : Int)) = P1 := by rw [hP1, IntKind.wrap_i64]; omega
      have m0 : IntKind.i64.wrap ((j : Int) + (c : Int) - (j : Int)) = (c : Int) := by rw [IntKind.wrap_i64]; omega
      have m2 : IntKind.i64.wrap ((c : Int) * ((kn : Int) + 1)) = P2 := by rw [hP2, IntKind.wrap_i64]; omega
      have m3 : IntKind.i64.wrap (P1 + P2) = E := by rw [hE, IntKind.wrap_i64]; omega
      have HRP : Hid (repP sn m (j : Int) ((j : Int) + (c : Int)) p = mayP sn m E p c (timesP j p)) := by
        unfold Hid repP
        rw [if_neg (by omega), HLN.out, show (j : Int) + (c : Int) - (j : Int) = c by omega, hP1, hP2, hE]; simp
      have HEB : Hid (0 ≤ E ∧ E ≤ 501000) := hEb
      have HFR : Hid (FitP (mayP sn m E p c (timesP j p))) := fit_may m E p HFP.out (by omega) c _ (fit_times HFP.out j)
      have HAC : Hid (j * kn + c * (kn + 1) ≤ 501000) := hac
      have HS0 : Hid (PS w1 wr (w.heap.size + 1 + 1 + 1) none (mayP sn m E p 0 (timesP j p))) := HSr
      clear hP1 hP2 eP hP1b hP2b hE hEb hac HSr
      have fb : ((j : Int) + (c : Int) == -1) = false := by simp; omega
      obtain ⟨wo, rfl⟩ : ∃ wo : World, wo = wr := ⟨_, rfl⟩
      go_wp2
      go_loopg [54] c (fun gk i wr => ∃ (t : Nat), t + gk = c ∧ i = .int .i64 t ∧ Hid (PS w1 wr (w.heap.size + 1 + 1 + 1) none (mayP sn m E p t (timesP j p))))
      case atStart => exact ⟨0, by omega, rfl, HS0⟩
      case round =>
        obtain ⟨t, ht, rfl, HSr⟩ := hrel
        clear HS0 n1 n2 n3 k0 k1
        by_cases hlt : t < c
        · have HN5 := HSr.out.bk HNX.out (by omega) (fun e => by cases e)
          have n1 := HN5.cell 1 (u := .int .i64 m) rfl
          have hfa : FitP (mayP sn m E p t (timesP j p)) := fit_may m E p HFP.out (by have := HEB.out; omega) t _ (fit_times HFP.out j)
          have hla : (mayP sn m E p t (timesP j p)).1.length + (kn + 1) ≤ 501000 := by
            rw [len_mayP, len_timesP, HLN.out]
            have h1 := HAC.out
            have h2 : (t + 1) * (kn + 1) ≤ c * (kn + 1) := Nat.mul_le_mul_right _ (by omega)
            rw [Nat.succ_mul] at h2
            omega
          have HT : Hid (mayP sn m E p (t + 1) (timesP j p) = stepM sn m E p (mayP sn m E p t (timesP j p))) := mayP_end sn m E p t _
          generalize mayP sn m E p t (timesP j p) = A at *
          obtain ⟨f1, f2⟩ := fit_stepM m E p A HFP.out hfa (by have := HEB.out; omega)
          obtain ⟨sx, sy, hsp⟩ := split_mem m ((A.1.length : Int) + 1) E
          have CS := fun W => split_any m ((A.1.length : Int) + 1) E W
          rw [hsp, agg6, sv] at CS
          simp only [ins, sn] at CS
          rw [hsp] at f1
          obtain ⟨ha0, hc0, l0⟩ := HSr.out.head
          have HT2 : Hid (mayP sn m E p (t + 1) (timesP j p) = addP (putP A [ins sn 2 sx sy]) p) := by unfold Hid; rw [HT.out, stepM, hsp]
          have HF1 : Hid (FitP (putP A [ins sn 2 sx sy])) := f1
          have HLA : Hid (A.1.length + (kn + 1) ≤ 501000) := hla
          clear HN5 hfa hla HT f1 f2 hsp
          generalize hA : A.1.length = al at *
          have HA : Hid (A.1.length = al) := hA
          have hal : al ≤ 501000 := by have := HLA.out; omega
          clear hA
          go_wp2_with (first
            | (go_at_call 100; refine (CS _).mono ?_; rintro e w2 ⟨rfl, d2⟩; have P2 := (HSr.out.on d2).alloc (.cells #[.int .i64 2, .int .i64 sx, .int .i64 sy, .int .i64 0, .int .i64 0, .slice none 0 0] 66); have CP := put_ps P2 (some ⟨w2.heap.size, 0, none⟩) 1 1 [ins sn 2 sx sy] rfl (cr_bk (Bk.new w2 _ _)) (fun e => by cases e) (by have := HA.out; omega); clear d2 P2 CS)
            | (go_at_call 56; refine CP.mono ?_; rintro e w3 ⟨rfl, P3⟩; have HK3 := P3.bk HKX.out (by omega) (fun e => by cases e); have k0 := HK3.cell 0 (u := .slice ka kn kc) rfl; have k1 := HK3.cell 1 (u := .int .i64 p.2) rfl; have CA := add_ps P3 ka kn kc p.2 p.1 HLN.out (P3.cr HQ.out (fun x e => ⟨by have := HKA.out x e; omega, fun e => by cases e⟩)) (fun x e => ⟨by have h1 := HKA.out x e; have h2 := P3.kq.size; omega, by have := HKA.out x e; omega, far_old P3 (by have := HKA.out x e; omega) (fun e => by cases e)⟩) HFP.out HF1.out (by have h1 := HA.out; have h2 := HLA.out; simp [putP]; omega); rw [show ((p.1, p.2) : Pc SV) = p from rfl, ← HT2.out] at CA; clear P3 CP HK3)
            | (go_at_call 97; refine CA.mono ?_; rintro e w5 ⟨rfl, P5⟩; have HS5 : Hid (PS w1 w5 (w.heap.size + 1 + 1 + 1) none (mayP sn m E p (t + 1) (timesP j p))) := P5; clear P5 CA))
          go_roundg (gk - 1)
          case measure => omega
          case rel => exact ⟨t + 1, by omega, by go_num, HS5⟩
        · obtain rfl : t = c := by omega
          obtain ⟨r, hrp, hbk, hpv⟩ := HSr.out.out HFR.out
          have r0 := hbk.cell 0 (u := .slice r.ka r.kn r.kc) rfl
          have r1 := hbk.cell 1 (u := .int .i64 (mayP sn m E p t (timesP j p)).2) rfl
          rw [← hrp] at r1
          have HR5 : Hid (Bk wr (w.heap.size + 1 + 1) #[.slice none 0 0, .int .i64 0] 55) := HSr.out.bk HR.out (by omega) (fun e => by cases e)
          have t0 := HR5.out.cell 0 (u := .slice none 0 0) rfl
          have t1 := HR5.out.cell 1 (u := .int .i64 0) rfl
          have f0 := HR5.out.frozen 0
          have f1 := HR5.out.frozen 1
          have HPR : Hid (r.p = mayP sn m E p t (timesP j p) ∧ PV wr w1.heap.size r) := ⟨hrp, hpv⟩
          have HB5 : Hid (Below w.heap.size w wr) := HBW.out.trans (HSr.out.kq.below (by omega) (fun x s => by rcases s with s | s; omega; cases s))
          clear HSr hrp hbk hpv
          go_wp2
          refine bodyPost_ret (results_cell_row Tryz.results94 _ _ (w.heap.size + 1 + 1) _ #[.slice r.ka r.kn r.kc, .int .i64 r.p.2] _ _ rfl (HR5.out.set2 _ _) Tryz.underlying55 rfl infP) rfl ?_
          exact ⟨r, rfl, by rw [HRP.out]; exact HPR.out.1, ((HPR.out.2.set (by omega) 0 _).set (by omega) 1 _).wide (by omega), (HB5.out.setCell (p := ⟨w.heap.size + 1 + 1, 0, none⟩) (by simp; omega) _).setCell (p := ⟨w.heap.size + 1 + 1, 1, none⟩) (by simp; omega) _⟩
end Go.Proofs.YtjbcapnpknbbaaaGreat.cmp
end
