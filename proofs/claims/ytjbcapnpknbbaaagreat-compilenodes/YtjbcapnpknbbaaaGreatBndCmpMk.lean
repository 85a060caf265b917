/- Texts that the proof leans on, one behind the other. -/
import Derived.Test.YtjbcapnpknbbaaaGreatCmpPc
import Derived.Deep.RegionHeld3
import Derived.Deep.RegionWith
import Derived.Deep.LoopGhost
import Derived.Deep.CutBlock

section
/- pieceOf at any node, the maker's methods. -/
set_option linter.unusedVariables false
set_option linter.unusedSimpArgs false
namespace Go.Proofs.YtjbcapnpknbbaaaGreat.cmp
open Go.RowKit nod
open Go.Proofs.YtjbcapnpknbbaaaGreat.wid (ofN)
open Go.Proofs.YtjbcapnpknbbaaaGreat.low (standP kidsP)
open Go.Proofs.YtjbcapnpknbbaaaGreat.rng (R RV info_parts)

open Go.Proofs.YtjbcapnpknbbaaaGreat.low (wi)
theorem wi_iff {x lo hi : Int} : wi x lo hi = true ↔ lo ≤ x ∧ x ≤ hi := by simp [wi]
theorem pieceOf_any (k m a b : Int) (g : Bool) (s : ByteArray) (sa : Option Addr) (sl sc : Nat) (ao : Option Addr) (nk cap : Nat) (la : Option Addr) (ln lc : Nat) (L : List Pp) (w : World) (hl : L.length = ln) (hv : LV w la L) (hq : ∀ q ∈ L, PV w 0 q) (hb : lensP (ps L) ≤ 5000) (hln : ln ≤ 1000) (hlc : ln ≤ lc) (st : List R) (ks : List Nd) (B : Nat) (hst : standP k m a b st nk = true) (h7 : k = 7 → 0 < ln) (HLK : Hid (ks.length = nk)) (hsz : szL ks ≤ 100000000) (hBw : B ≤ w.heap.size) (HK : Hid (KV B w ao ks)) :
    Calls Tryz.prog 81 #[.agg #[.int .i64 k, .int .i64 m, .int .i64 a, .int .i64 b, .bool g, .string s, .slice sa sl sc, .slice ao nk cap], .slice la ln lc] w fun e w' => ∃ r : Pp, e = .returned (.agg #[.slice r.ka r.kn r.kc, .int .i64 r.p.2]) ∧ r.p = pieceP sn k m a b (sa, sl, sc) (lkW m ks) (ps L) ∧ PV w' w.heap.size r ∧ Below w.heap.size w w' := by
  unfold standP at hst
  unfold pieceP
  by_cases c15 : k = 15
  · subst c15; rw [if_pos rfl]; exact pc15 m a b g s sa sl sc ao nk cap la ln lc L w
  rw [if_neg c15] at hst ⊢
  by_cases c6 : k = 6 ∨ k = 14
  · rcases c6 with rfl | rfl
    · rw [if_neg (by decide), if_neg (by decide), if_neg (by decide), if_neg (by decide), if_neg (by decide), if_neg (by decide), if_neg (by decide), if_neg (fun h => absurd h.1 (by decide))]; exact pc6 m a b g s sa sl sc ao nk cap la ln lc L w hl hv hq hb hln
    · rw [if_neg (by decide), if_neg (by decide), if_neg (by decide), if_neg (by decide), if_neg (by decide), if_neg (by decide), if_pos rfl]; exact pc14 m a b g s sa sl sc ao nk cap la ln lc L w
  rw [if_neg c6] at hst
  by_cases c7 : k = 7
  · subst c7; rw [if_pos rfl]; exact pc7 m a b g s sa sl sc ao nk cap la ln lc L w hl hv hq hb hln (h7 rfl) hlc
  rw [if_neg c7] at hst ⊢
  by_cases c8 : k = 8
  · subst c8
    rw [if_pos rfl] at hst ⊢
    simp only [low.repP, Bool.and_eq_true, Bool.or_eq_true, wi_iff, beq_iff_eq] at hst
    obtain ⟨⟨⟨h1, h2⟩, h3⟩, h4⟩ := hst
    exact pc8 m a b g s sa sl sc ao nk cap la ln lc L w hl hv hq hb hln h2 h3
  rw [if_neg c8] at hst ⊢
  by_cases c9 : k = 9
  · subst c9
    rw [if_pos rfl] at hst
    rw [if_neg (by decide), if_neg (by decide), if_neg (by decide), if_neg (by decide), if_neg (by decide)]
    simp only [Bool.and_eq_true, wi_iff] at hst
    by_cases ha : 0 < a
    · rw [if_pos ⟨rfl, ha⟩]; exact pc9 m a b g s sa sl sc ao nk cap la ln lc L w hl hv hq hb hln ⟨ha, hst.1.2⟩
    · rw [if_neg (fun h => ha h.2)]; exact pc9z m a b g s sa sl sc ao nk cap la ln lc L w hl hv hq hb hln (by omega)
  rw [if_neg c9] at hst
  by_cases c10 : k = 10
  · subst c10
    rw [if_pos rfl] at hst ⊢
    simp only [Bool.and_eq_true, wi_iff, decide_eq_true_eq] at hst
    exact pc10 m a b g s sa sl sc ao nk cap la ln lc L w hl hv hq hb hln ks B HLK (by omega) hsz hBw HK hst.1
  rw [if_neg c10] at hst ⊢
  by_cases c11 : k = 11
  · subst c11; rw [if_pos rfl]; exact pc11 m a b g s sa sl sc ao nk cap la ln lc L w hl hv hq hb hln
  rw [if_neg c11] at hst ⊢
  by_cases c12 : k = 12
  · subst c12; rw [if_pos rfl] at hst ⊢; exact pc12 m a b g s sa sl sc ao nk cap la ln lc L w (wi_iff.1 hst)
  rw [if_neg c12] at hst ⊢
  by_cases c13 : k = 13
  · subst c13; rw [if_pos rfl] at hst ⊢; exact pc13 m a b g s sa sl sc ao nk cap la ln lc L w (wi_iff.1 hst)
  rw [if_neg c13] at hst
  cases hst

theorem full_any (mb : Nat) (laid : Int) (w : World) (h : Bk w mb #[.int .i64 laid] 94) : Calls Tryz.prog 54 #[.pointer (some ⟨mb, 0, none⟩)] w fun e w' => e = .returned (.bool (decide (4997 < laid))) ∧ w' = w := by
  have x0 := h.cell 0 (u := .int .i64 laid) rfl
  clear h
  go_enter Tryz.func54, Tryz.ntmps54
  go_wp2
  go_ret
  exact ⟨rfl, rfl⟩
theorem hasK_any (k : Int) (w : World) : Calls Tryz.prog 42 #[.int .i64 k] w fun e w' => e = .returned (.bool (kidsP k)) ∧ w' = w := by
  by_cases c6 : k = 6
  · subst c6; go_enter Tryz.func42, Tryz.ntmps42; go_wp2; go_ret; exact ⟨rfl, rfl⟩
  by_cases c7 : k = 7
  · subst c7; go_enter Tryz.func42, Tryz.ntmps42; go_wp2; go_ret; exact ⟨rfl, rfl⟩
  by_cases c8 : k = 8
  · subst c8; go_enter Tryz.func42, Tryz.ntmps42; go_wp2; go_ret; exact ⟨rfl, rfl⟩
  by_cases c9 : k = 9
  · subst c9; go_enter Tryz.func42, Tryz.ntmps42; go_wp2; go_ret; exact ⟨rfl, rfl⟩
  by_cases c10 : k = 10
  · subst c10; go_enter Tryz.func42, Tryz.ntmps42; go_wp2; go_ret; exact ⟨rfl, rfl⟩
  by_cases c11 : k = 11
  · subst c11; go_enter Tryz.func42, Tryz.ntmps42; go_wp2; go_ret; exact ⟨rfl, rfl⟩
  have HE : Hid (kidsP k = false) := by unfold Hid kidsP; simp; omega
  have f6 : (k == 6) = false := by simpa using c6
  have f7 : (k == 7) = false := by simpa using c7
  have f8 : (k == 8) = false := by simpa using c8
  have f9 : (k == 9) = false := by simpa using c9
  have f10 : (k == 10) = false := by simpa using c10
  have f11 : (k == 11) = false := by simpa using c11
  clear c6 c7 c8 c9 c10 c11
  go_enter Tryz.func42, Tryz.ntmps42
  go_wp2
  go_ret
  exact ⟨by rw [HE.out]; rfl, rfl⟩
set_option maxRecDepth 10000 in
set_option maxHeartbeats 16000000 in
theorem enters_any (mb : Nat) (laid : Int) (k m a b : Int) (g : Bool) (s : ByteArray) (sa : Option Addr) (sl sc : Nat) (ao : Option Addr) (nk cap : Nat) (ab : Int) (w : World) (h : Bk w mb #[.int .i64 laid] 94) :
    Calls Tryz.prog 52 #[.pointer (some ⟨mb, 0, none⟩), .agg #[.int .i64 k, .int .i64 m, .int .i64 a, .int .i64 b, .bool g, .string s, .slice sa sl sc, .slice ao nk cap], .int .i64 ab] w fun e w' => e = .returned (.bool (!decide (4997 < laid) && goes k b)) ∧ Below w.heap.size w w' := by
  have HB : Hid (Below w.heap.size w (w.alloc (.cells #[.int .i64 k, .int .i64 m, .int .i64 a, .int .i64 b, .bool g, .string s, .slice sa sl sc, .slice ao nk cap] 25))) := (Below.refl _ w).alloc (Nat.le_refl _) _
  have CF := full_any mb laid (w.alloc (.cells #[.int .i64 k, .int .i64 m, .int .i64 a, .int .i64 b, .bool g, .string s, .slice sa sl sc, .slice ao nk cap] 25)) (h.past _)
  have CH := fun W => hasK_any k W
  have HG : Hid (goes k b = (kidsP k && !(k == 8 && b == 0))) := rfl
  rw [HG.out]
  clear h HG
  generalize decide (4997 < laid) = f at *
  generalize kidsP k = q at *
  cases f with
  | true =>
    clear CH
    go_enter Tryz.func52, Tryz.ntmps52
    go_wp2_with (go_at_call 54; refine CF.mono ?_; rintro e w2 ⟨rfl, rfl⟩)
    go_ret
    exact ⟨rfl, HB.out⟩
  | false =>
    cases q with
    | false =>
      go_enter Tryz.func52, Tryz.ntmps52
      go_wp2_with (first | (go_at_call 54; refine CF.mono ?_; rintro e w2 ⟨rfl, rfl⟩; clear CF) | (go_at_call 42; refine (CH _).mono ?_; rintro e w3 ⟨rfl, rfl⟩; clear CH))
      go_ret
      exact ⟨rfl, HB.out⟩
    | true =>
      by_cases h8 : k = 8
      · subst h8
        by_cases h0 : b = 0
        · subst h0
          go_enter Tryz.func52, Tryz.ntmps52
          go_wp2_with (first | (go_at_call 54; refine CF.mono ?_; rintro e w2 ⟨rfl, rfl⟩; clear CF) | (go_at_call 42; refine (CH _).mono ?_; rintro e w3 ⟨rfl, rfl⟩; clear CH))
          go_ret
          exact ⟨rfl, HB.out⟩
        · have f0 : (b == 0) = false := by simpa using h0
          rw [f0]
          clear h0
          go_enter Tryz.func52, Tryz.ntmps52
          go_wp2_with (first | (go_at_call 54; refine CF.mono ?_; rintro e w2 ⟨rfl, rfl⟩; clear CF) | (go_at_call 42; refine (CH _).mono ?_; rintro e w3 ⟨rfl, rfl⟩; clear CH))
          go_ret
          exact ⟨rfl, HB.out⟩
      · have f8 : (k == 8) = false := by simpa using h8
        rw [f8]
        clear h8
        go_enter Tryz.func52, Tryz.ntmps52
        go_wp2_with (first | (go_at_call 54; refine CF.mono ?_; rintro e w2 ⟨rfl, rfl⟩; clear CF) | (go_at_call 42; refine (CH _).mono ?_; rintro e w3 ⟨rfl, rfl⟩; clear CH))
        go_ret
        exact ⟨rfl, HB.out⟩
set_option maxRecDepth 10000 in
set_option maxHeartbeats 16000000 in
theorem join_full (mb : Nat) (laid : Int) (k m a b : Int) (g : Bool) (s : ByteArray) (sa : Option Addr) (sl sc : Nat) (ao : Option Addr) (nk cap : Nat) (kv : Value) (w : World) (h : Bk w mb #[.int .i64 laid] 94) (hf : 4997 < laid) :
    Calls Tryz.prog 53 #[.pointer (some ⟨mb, 0, none⟩), .agg #[.int .i64 k, .int .i64 m, .int .i64 a, .int .i64 b, .bool g, .string s, .slice sa sl sc, .slice ao nk cap], kv] w fun e w' => e = .returned (.agg #[.slice none 0 0, .int .i64 0]) ∧ Below w.heap.size w w' := by
  have HB : Hid (Below w.heap.size w ((w.alloc (.cells #[.int .i64 k, .int .i64 m, .int .i64 a, .int .i64 b, .bool g, .string s, .slice sa sl sc, .slice ao nk cap] 25)).alloc (.cells #[.slice none 0 0, .int .i64 0] 55))) := below2 _ _ _
  have CF := full_any mb laid ((w.alloc (.cells #[.int .i64 k, .int .i64 m, .int .i64 a, .int .i64 b, .bool g, .string s, .slice sa sl sc, .slice ao nk cap] 25)).alloc (.cells #[.slice none 0 0, .int .i64 0] 55)) ((h.past _).past _)
  rw [decide_eq_true hf] at CF
  clear h hf
  go_enter Tryz.func53, Tryz.ntmps53
  go_wp2_with (go_at_call 54; refine CF.mono ?_; rintro e w2 ⟨rfl, rfl⟩)
  refine bodyPost_ret (results_cell_row Tryz.results53 _ _ (w.heap.size + 1) _ #[.slice none 0 0, .int .i64 0] _ _ rfl bk2 Tryz.underlying55 rfl infP) rfl ?_
  exact ⟨rfl, HB.out⟩
end Go.Proofs.YtjbcapnpknbbaaaGreat.cmp
end

section
/- The maker's join. -/
set_option linter.unusedVariables false
set_option linter.unusedSimpArgs false
namespace Go.Proofs.YtjbcapnpknbbaaaGreat.cmp
open Go.RowKit nod
open Go.Proofs.YtjbcapnpknbbaaaGreat.wid (ofN)
open Go.Proofs.YtjbcapnpknbbaaaGreat.low (standP kidsP)
open Go.Proofs.YtjbcapnpknbbaaaGreat.rng (R RV info_parts)

open Go.Proofs.YtjbcapnpknbbaaaGreat.low (wi)
theorem len_piece_le (k m a b : Int) (st : List R) (nk : Nat) (s0 : SV) (x : R) (L : List (Pc SV)) (hst : standP k m a b st nk = true) (hL : lensP L ≤ 5000) (hn : L.length ≤ 1000) : (pieceP sn k m a b s0 x L).1.length ≤ 610000 := by
  have hr : (rowP L).1.length ≤ 5000 := by rw [len_rowP]; exact hL
  unfold pieceP
  split
  · simp [oneP]
  split
  · unfold choiceP; rw [len_chGo]; simp; omega
  split
  · rename_i c8
    subst c8
    unfold standP at hst
    rw [if_neg (by decide), if_neg (by decide), if_neg (by decide), if_pos rfl] at hst
    simp only [low.repP, Bool.and_eq_true, Bool.or_eq_true, wi_iff, beq_iff_eq] at hst
    obtain ⟨⟨⟨h1, h2⟩, h3⟩, h4⟩ := hst
    unfold repAny
    split
    · rw [len_blockP]; have := len_repP_le sn 0 a b (rowP L) h2 h3 hr; omega
    · have := len_repP_le sn m a b (rowP L) h2 h3 hr; omega
  split
  · rw [len_blockP]; omega
  split
  · rw [len_blockP]; omega
  split
  · simp [oneP]
  split
  · simp [oneP]
  split
  · simp [oneP]
  split
  · rw [len_savedP]; omega
  · omega
theorem PV.kp {E : Option Nat} {w w' : World} {lo : Nat} {q : Pp} (h : PV w lo q) (k : Kp E w w') (hE : ∀ x, E = some x → x < lo) : PV w' lo q :=
  ⟨h.len, h.cr.keep fun b off e _ hl => k.block b hl (fun e2 => by have h1 := (h.at_ _ e).1; have h2 := hE b e2.symm; simp only at h1; omega), fun x e => ⟨(h.at_ x e).1, Nat.lt_of_lt_of_le (h.at_ x e).2 k.size⟩, h.fit⟩
theorem LV.kp {mb : Nat} {w w' : World} {la : Option Addr} {L : List Pp} (h : LV w la L) (k : Kp (some mb) w w') (hE : ∀ x, la = some x → x.block ≠ mb) : LV w' la L := h.keep k.size fun x e hl => k.block _ hl (fun e2 => hE x e (by cases e2; rfl))
set_option maxRecDepth 10000 in
set_option maxHeartbeats 16000000 in
theorem join_ok (mb : Nat) (laid : Int) (k m a b : Int) (g : Bool) (s : ByteArray) (sa : Option Addr) (sl sc : Nat) (ao : Option Addr) (nk cap : Nat) (la : Option Addr) (ln lc : Nat) (L : List Pp) (w : World) (hl : L.length = ln) (hv : LV w la L) (hq : ∀ q ∈ L, PV w 0 q) (hb : lensP (ps L) ≤ 5000) (hln : ln ≤ 1000) (hlc : ln ≤ lc) (st : List R) (ks : List Nd) (B : Nat) (hst : standP k m a b st nk = true) (h7 : k = 7 → 0 < ln) (HLK : Hid (ks.length = nk)) (hsz : szL ks ≤ 100000000) (hBw : B ≤ w.heap.size) (HK : Hid (KV B w ao ks)) (h : Bk w mb #[.int .i64 laid] 94) (h0 : 0 ≤ laid) (hf : ¬ 4997 < laid) (hla : ∀ x, la = some x → x.block ≠ mb) :
    Calls Tryz.prog 53 #[.pointer (some ⟨mb, 0, none⟩), .agg #[.int .i64 k, .int .i64 m, .int .i64 a, .int .i64 b, .bool g, .string s, .slice sa sl sc, .slice ao nk cap], .slice la ln lc] w fun e w' => ∃ r : Pp, e = .returned (.agg #[.slice r.ka r.kn r.kc, .int .i64 r.p.2]) ∧ r.p = pieceP sn k m a b (sa, sl, sc) (lkW m ks) (ps L) ∧ PV w' w.heap.size r ∧ Kp (some mb) w w' ∧ Bk w' mb #[.int .i64 (laid + r.kn - lensP (ps L))] 94 := by
  have hmb := h.lt
  have HBW : Hid (Below w.heap.size w ((w.alloc (.cells #[.int .i64 k, .int .i64 m, .int .i64 a, .int .i64 b, .bool g, .string s, .slice sa sl sc, .slice ao nk cap] 25)).alloc (.cells #[.slice none 0 0, .int .i64 0] 55))) := below2 _ _ _
  have HNX : Hid (Bk ((w.alloc (.cells #[.int .i64 k, .int .i64 m, .int .i64 a, .int .i64 b, .bool g, .string s, .slice sa sl sc, .slice ao nk cap] 25)).alloc (.cells #[.slice none 0 0, .int .i64 0] 55)) w.heap.size #[.int .i64 k, .int .i64 m, .int .i64 a, .int .i64 b, .bool g, .string s, .slice sa sl sc, .slice ao nk cap] 25) := (Bk.new w _ _).past _
  have HR : Hid (Bk ((w.alloc (.cells #[.int .i64 k, .int .i64 m, .int .i64 a, .int .i64 b, .bool g, .string s, .slice sa sl sc, .slice ao nk cap] 25)).alloc (.cells #[.slice none 0 0, .int .i64 0] 55)) (w.heap.size + 1) #[.slice none 0 0, .int .i64 0] 55) := bk2
  have HM : Hid (Bk ((w.alloc (.cells #[.int .i64 k, .int .i64 m, .int .i64 a, .int .i64 b, .bool g, .string s, .slice sa sl sc, .slice ao nk cap] 25)).alloc (.cells #[.slice none 0 0, .int .i64 0] 55)) mb #[.int .i64 laid] 94) := (h.past _).past _
  have hz : ((w.alloc (.cells #[.int .i64 k, .int .i64 m, .int .i64 a, .int .i64 b, .bool g, .string s, .slice sa sl sc, .slice ao nk cap] 25)).alloc (.cells #[.slice none 0 0, .int .i64 0] 55)).heap.size = w.heap.size + 1 + 1 := by simp
  have CF := full_any mb laid ((w.alloc (.cells #[.int .i64 k, .int .i64 m, .int .i64 a, .int .i64 b, .bool g, .string s, .slice sa sl sc, .slice ao nk cap] 25)).alloc (.cells #[.slice none 0 0, .int .i64 0] 55)) HM.out
  rw [decide_eq_false hf] at CF
  have CP := pieceOf_any k m a b g s sa sl sc ao nk cap la ln lc L ((w.alloc (.cells #[.int .i64 k, .int .i64 m, .int .i64 a, .int .i64 b, .bool g, .string s, .slice sa sl sc, .slice ao nk cap] 25)).alloc (.cells #[.slice none 0 0, .int .i64 0] 55)) hl (hv.on HBW.out) (fun q hm => (hq q hm).on HBW.out) hb hln hlc st ks B hst h7 HLK hsz (by simp; omega) (by unfold Hid; exact HK.out.below (below_less HBW.out hBw))
  have hle := len_piece_le k m a b st nk (sa, sl, sc) (lkW m ks) (ps L) hst hb (by simp [ps]; omega)
  have HLE : Hid ((pieceP sn k m a b (sa, sl, sc) (lkW m ks) (ps L)).1.length ≤ 610000) := hle
  have HLL : Hid (L.length = ln) := hl
  have HLB : Hid (lensP (ps L) ≤ 5000) := hb
  have HLV : Hid (LV ((w.alloc (.cells #[.int .i64 k, .int .i64 m, .int .i64 a, .int .i64 b, .bool g, .string s, .slice sa sl sc, .slice ao nk cap] 25)).alloc (.cells #[.slice none 0 0, .int .i64 0] 55)) la L) := hv.on HBW.out
  have HLN : Hid (∀ q ∈ L, q.p.1.length = q.kn) := fun q hm => (hq q hm).len
  have HLA : Hid (∀ x, la = some x → x.block ≠ mb) := hla
  obtain ⟨w1, hw1⟩ : ∃ w1, ((w.alloc (.cells #[.int .i64 k, .int .i64 m, .int .i64 a, .int .i64 b, .bool g, .string s, .slice sa sl sc, .slice ao nk cap] 25)).alloc (.cells #[.slice none 0 0, .int .i64 0] 55)) = w1 := ⟨_, rfl⟩
  have HW1 : Hid (((w.alloc (.cells #[.int .i64 k, .int .i64 m, .int .i64 a, .int .i64 b, .bool g, .string s, .slice sa sl sc, .slice ao nk cap] 25)).alloc (.cells #[.slice none 0 0, .int .i64 0] 55)) = w1) := hw1
  rw [hw1] at HBW HNX HR HM hz CF CP HLV
  generalize pieceP sn k m a b (sa, sl, sc) (lkW m ks) (ps L) = PP at *
  have hmb1 : mb < w.heap.size := hmb
  have hf2 : laid ≤ 4997 := by omega
  have hnm : w.heap.size + 1 ≠ mb := by omega
  clear hw1 h hl hv hq hb hst h7 HLK hsz HK hle hla hf
  go_enter Tryz.func53, Tryz.ntmps53
  go_wp2_with (first
    | (go_at_call 54; rw [HW1.out]; refine CF.mono ?_; rintro e w2 ⟨rfl, he2⟩; obtain rfl := he2.symm; have x0 := HNX.out.cell 0 (u := .int .i64 k) rfl; have x1 := HNX.out.cell 1 (u := .int .i64 m) rfl; have x2 := HNX.out.cell 2 (u := .int .i64 a) rfl; have x3 := HNX.out.cell 3 (u := .int .i64 b) rfl; have x4 := HNX.out.cell 4 (u := .bool g) rfl; have x5 := HNX.out.cell 5 (u := .string s) rfl; have x6 := HNX.out.cell 6 (u := .slice sa sl sc) rfl; have x7 := HNX.out.cell 7 (u := .slice ao nk cap) rfl; clear CF)
    | (go_at_call 81; refine CP.mono ?_; rintro e w3 ⟨r, rfl, hr, hv, b3⟩; have B3 : Hid (Below w1.heap.size w1 w3) := b3; have HPR : Hid (r.p = PP ∧ PV w3 w1.heap.size r) := ⟨hr, hv⟩; have hkn : r.kn ≤ 610000 := (by rw [← hv.len, hr]; exact HLE.out); clear CP hr hv b3 x0 x1 x2 x3 x4 x5 x6 x7))
  have hB3s := B3.out.size
  have HM3 : Bk (w3.alloc (.cells #[.slice r.ka r.kn r.kc, .int .i64 r.p.2] 55)) mb #[.int .i64 laid] 94 := (HM.out.on B3.out).past _
  have HO3 : Hid (Bk (w3.alloc (.cells #[.slice r.ka r.kn r.kc, .int .i64 r.p.2] 55)) w3.heap.size #[.slice r.ka r.kn r.kc, .int .i64 r.p.2] 55) := Bk.new w3 _ _
  have HR3 : Hid (Bk (w3.alloc (.cells #[.slice r.ka r.kn r.kc, .int .i64 r.p.2] 55)) (w.heap.size + 1) #[.slice none 0 0, .int .i64 0] 55) := (HR.out.on B3.out).past _
  have HLV3 : Hid (LV (w3.alloc (.cells #[.slice r.ka r.kn r.kc, .int .i64 r.p.2] 55)) la L) := (HLV.out.on B3.out).on ((Below.refl _ w3).alloc (Nat.le_refl _) _)
  have HPV3 : Hid (PV (w3.alloc (.cells #[.slice r.ka r.kn r.kc, .int .i64 r.p.2] 55)) w1.heap.size r) := HPR.out.2.on ((Below.refl _ w3).alloc (Nat.le_refl _) _)
  have HB03 : Hid (Below w.heap.size w (w3.alloc (.cells #[.slice r.ka r.kn r.kc, .int .i64 r.p.2] 55))) := (HBW.out.trans (below_less B3.out (by omega))).alloc (by omega) _
  have m0 := HM3.cell 0 (u := .int .i64 laid) rfl
  have mf := HM3.frozen 0
  have o0 := HO3.out.cell 0 (u := .slice r.ka r.kn r.kc) rfl
  obtain ⟨LA, hLA⟩ : ∃ LA : Int, laid + (r.kn : Int) = LA := ⟨_, rfl⟩
  have hLAb : 0 ≤ LA ∧ LA ≤ 700000 := by omega
  have hwp : IntKind.i64.wrap (laid + (r.kn : Int)) = LA := by rw [hLA, IntKind.wrap_i64]; omega
  have HLAe : Hid (laid + (r.kn : Int) = LA) := hLA
  have hz3 : (w3.alloc (.cells #[.slice r.ka r.kn r.kc, .int .i64 r.p.2] 55)).heap.size = w3.heap.size + 1 := by simp
  have HW4 : Hid (Kp (some mb) (w3.alloc (.cells #[.slice r.ka r.kn r.kc, .int .i64 r.p.2] 55)) ((w3.alloc (.cells #[.slice r.ka r.kn r.kc, .int .i64 r.p.2] 55)).setCell ⟨mb, 0, none⟩ (.int .i64 LA))) := (Kp.refl (some mb) _).setCell (p := ⟨mb, 0, none⟩) (.inr rfl) _
  have HM4 : Hid (Bk ((w3.alloc (.cells #[.slice r.ka r.kn r.kc, .int .i64 r.p.2] 55)).setCell ⟨mb, 0, none⟩ (.int .i64 LA)) mb #[.int .i64 (LA - lensP (ps (L.take 0)))] 94) := by
    have := HM3.set 0 (.int .i64 LA)
    simpa [Hid, ps, lensP] using this
  obtain ⟨w4, hw4⟩ : ∃ w4, w3.alloc (.cells #[.slice r.ka r.kn r.kc, .int .i64 r.p.2] 55) = w4 := ⟨_, rfl⟩
  have HW4e : Hid (w3.alloc (.cells #[.slice r.ka r.kn r.kc, .int .i64 r.p.2] 55) = w4) := hw4
  rw [hw4] at HO3 HR3 HLV3 HPV3 HB03 m0 mf o0 hz3 HW4 HM4
  rw [hw4]
  clear hw4 hLA HM3
  go_region
  go_wp2
  go_loopg [28] ln (fun gk i wr => ∃ (j : Nat), j + gk = ln ∧ i = .int .i64 j ∧ Hid (Kp (some mb) w4 wr) ∧ Hid (Bk wr mb #[.int .i64 (LA - lensP (ps (L.take j)))] 94))
  case atStart => exact ⟨0, by omega, rfl, HW4.out.then (rng.below_drewN (Below.refl _ _) _), HM4.out⟩
  case round =>
    obtain ⟨j, hj, rfl, HKr, HMr⟩ := hrel
    clear HW4 HM4 m0 mf o0
    by_cases hlt : j < ln
    · obtain ⟨q, hq⟩ := getQ HLL.out hlt
      have hmem := List.mem_of_getElem? hq
      obtain ⟨b', off, rfl, hbl, hc⟩ := (HLV3.out.kp HKr.out HLA.out).pos (by have := HLL.out; omega)
      obtain ⟨y0, y1⟩ := hc j q hq
      have HT : Hid (lensP (ps (L.take (j + 1))) = lensP (ps (L.take j)) + q.kn) := by
        unfold Hid ps; rw [takeQ hq, List.map_append, List.map_cons, List.map_nil, lens_snoc, HLN.out q hmem]
      have h3 : lensP (ps (L.take (j + 1))) ≤ 5000 := by
        have h1 := HLB.out; have h2 := lens_take (ps L) (j + 1)
        rw [show (ps L).take (j + 1) = ps (L.take (j + 1)) by simp [ps, List.map_take]] at h2; omega
      rw [HT.out] at h3
      generalize lensP (ps (L.take j)) = e0 at *
      have HMa : Bk (wr.alloc (.cells #[.slice q.ka q.kn q.kc, .int .i64 q.p.2] 55)) mb #[.int .i64 (LA - e0)] 94 := HMr.out.past _
      have m0 := HMa.cell 0 (u := .int .i64 (LA - e0)) rfl
      have mf := HMa.frozen 0
      have hwq : IntKind.i64.wrap (LA - (e0 : Int) - (q.kn : Int)) = LA - (e0 : Int) - (q.kn : Int) := by rw [IntKind.wrap_i64]; omega
      have HK2 : Hid (Kp (some mb) w4 ((wr.alloc (.cells #[.slice q.ka q.kn q.kc, .int .i64 q.p.2] 55)).setCell ⟨mb, 0, none⟩ (.int .i64 (LA - (e0 : Int) - (q.kn : Int))))) := (HKr.out.alloc _).setCell (p := ⟨mb, 0, none⟩) (.inr rfl) _
      have HM2 : Hid (Bk ((wr.alloc (.cells #[.slice q.ka q.kn q.kc, .int .i64 q.p.2] 55)).setCell ⟨mb, 0, none⟩ (.int .i64 (LA - (e0 : Int) - (q.kn : Int)))) mb #[.int .i64 (LA - lensP (ps (L.take (j + 1))))] 94) := by
        have := HMa.set 0 (.int .i64 (LA - (e0 : Int) - (q.kn : Int)))
        unfold Hid; rw [HT.out, show LA - ((e0 + q.kn : Nat) : Int) = LA - (e0 : Int) - (q.kn : Int) by omega]
        simpa using this
      clear hc hq hmem HMr HKr HMa HT
      go_upto_region 8 with fail
      go_region
      try go_wp2
      go_roundg (gk - 1)
      case measure => omega
      case rel => exact ⟨j + 1, by omega, by go_num, HK2.out.then (rng.below_drewN (Below.refl _ _) _), HM2.out⟩
    · obtain rfl : j = ln := by omega
      have htk : L.take j = L := List.take_of_length_le (by have := HLL.out; omega)
      rw [htk] at HMr
      have HO := HO3.out.kp HKr.out (fun e => by cases e; omega)
      have c0 := HO.cell 0 (u := .slice r.ka r.kn r.kc) rfl
      have c1 := HO.cell 1 (u := .int .i64 r.p.2) rfl
      have HRw : Hid (Bk wr (w.heap.size + 1) #[.slice none 0 0, .int .i64 0] 55) := HR3.out.kp HKr.out (fun e => by cases e; omega)
      have t0 := HRw.out.cell 0 (u := .slice none 0 0) rfl
      have t1 := HRw.out.cell 1 (u := .int .i64 0) rfl
      have f0 := HRw.out.frozen 0
      have f1 := HRw.out.frozen 1
      have HPW : Hid (PV wr w1.heap.size r) := HPV3.out.kp HKr.out (fun x e => by cases e; omega)
      have HKW : Hid (Kp (some mb) w wr) := (Kp.of_below HB03.out).trans HKr.out
      have HMW : Hid (Bk wr mb #[.int .i64 (laid + r.kn - lensP (ps L))] 94) := by unfold Hid; rw [HLAe.out]; exact HMr.out
      have hmn : mb ≠ w.heap.size + 1 := by omega
      clear htk HO HKr HMr
      go_wp2
      refine bodyPost_ret (results_cell_row Tryz.results53 _ _ (w.heap.size + 1) _ #[.slice r.ka r.kn r.kc, .int .i64 r.p.2] _ _ rfl (HRw.out.set2 _ _) Tryz.underlying55 rfl infP) rfl ?_
      exact ⟨r, rfl, HPR.out.1, ((HPW.out.set (by omega) 0 _).set (by omega) 1 _).wide (by omega), (HKW.out.setCell (p := ⟨w.heap.size + 1, 0, none⟩) (.inl (by simp)) _).setCell (p := ⟨w.heap.size + 1, 1, none⟩) (.inl (by simp)) _, (HMW.out.apart hmn _).apart hmn _⟩
end Go.Proofs.YtjbcapnpknbbaaaGreat.cmp
end
