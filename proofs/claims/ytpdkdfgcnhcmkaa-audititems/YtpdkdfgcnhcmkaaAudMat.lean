/- audit.matched: the bytes of the matches that have some, as a row of parts of the bytes. -/
import Derived.Test.YtpdkdfgcnhcmkaaAudCut
set_option linter.unusedVariables false
set_option linter.unusedSimpArgs false
namespace Go.Proofs.Ytpdkdfgcnhcmkaa.aud
open Go.RowKit
open Go.Proofs.Ytpdkdfgcnhcmkaa.edt

abbrev Tx := Value × List Int
theorem infoBytes : (Try.prog.info? 25).map (fun i => (i.zero, i.size, i.bytes)) = some (some (.slice none 0 0), 1, 24) := by kernel_rfl
/-- A row of texts of the call's own; each text is bytes of an older world. -/
structure TO (w0 w : World) (B : Nat) (v : Value) (ts : List Tx) : Prop where
  row : w.ownsRow B 25 1 v ts.length (ts.map Prod.fst)
  txt : ∀ t ∈ ts, ∃ a m c, t.1 = .slice a m c ∧ BS w0 a m c t.2
theorem TO.nil (w0 w : World) (B : Nat) : TO w0 w B (.slice none 0 0) [] := ⟨World.ownsRow_nil _ _ _ _, fun t h => (by cases h)⟩
theorem TO.below {w0 w w' : World} {B : Nat} {v : Value} {ts : List Tx} (h : TO w0 w B v ts) (hb : Below w.heap.size w w') : TO w0 w' B v ts := ⟨own_below h.row hb, h.txt⟩
theorem TO.alloc {w0 w : World} {B : Nat} {v : Value} {ts : List Tx} (h : TO w0 w B v ts) (o : Obj) : TO w0 (w.alloc o) B v ts := h.below ((Below.refl _ _).alloc (Nat.le_refl _) o)
theorem TO.snoc {w0 w' : World} {B : Nat} {v' : Value} {ts us : List Tx} (ht : ∀ t ∈ ts, ∃ a m c, t.1 = .slice a m c ∧ BS w0 a m c t.2) (hu : ∀ t ∈ us, ∃ a m c, t.1 = .slice a m c ∧ BS w0 a m c t.2)
    (hrow : w'.ownsRow B 25 1 v' (ts.length + us.length) (ts.map Prod.fst ++ us.map Prod.fst)) : TO w0 w' B v' (ts ++ us) := by
  refine ⟨by rw [List.length_append, List.map_append]; exact hrow, fun t h => ?_⟩
  rcases List.mem_append.1 h with h | h
  · exact ht t h
  · exact hu t h
/-- Read as a row of texts. -/
theorem TO.tv {w0 w : World} {B : Nat} {v : Value} {ts : List Tx} (h : TO w0 w B v ts) (hb : Below w0.heap.size w0 w) : ∃ ao cap, v = .slice ao ts.length cap ∧ TV w ao ts.length cap (ts.map Prod.snd) := by
  rcases h.row.2 with ⟨hv, h0⟩ | ⟨g, cap, cur, hv, _, _, hc, hm, _⟩
  · exact ⟨none, 0, by rw [hv, h0], by rw [List.length_map], by omega, by omega, .inl h0⟩
  · unfold maxLen at hm
    refine ⟨some ⟨g, 0, none⟩, cap, hv, by rw [List.length_map], hc, by omega, .inr ⟨g, 0, rfl, fun i hi => ?_⟩⟩
    obtain ⟨a, m, c, e, hB⟩ := h.txt _ (List.getElem_mem hi)
    have hr := h.row
    rw [hv] at hr
    refine ⟨a, m, c, ?_, ?_⟩
    · rw [Nat.zero_add, hr.cellAt i (by omega), List.getElem?_map, List.getElem?_eq_getElem hi, ← e]; rfl
    · rw [List.getD_eq_getElem?_getD, List.getElem?_map, List.getElem?_eq_getElem hi]
      exact hB.below hb
theorem one_new (w : World) (x : Value) : ∀ (j : Nat) (u : Value), [x][j]? = some u → (w.alloc (Obj.cells #[x] 25)).cell? ((⟨w.heap.size, 0, none⟩ : Addr).add j) = some u := by
  intro j u hj
  match j, hj with
  | 0, hj => simp at hj; subst hj; simp [Addr.add]
  | k + 1, hj => simp at hj
/-- The bytes of the matches that have some. -/
def mtL (b : List Int) : List (List Sp) → List (List Int)
  | [] => []
  | m :: r => if (m.getD 0 (0, 0)).1 < (m.getD 0 (0, 0)).2 then (b.drop (m.getD 0 (0, 0)).1.toNat).take ((m.getD 0 (0, 0)).2.toNat - (m.getD 0 (0, 0)).1.toNat) :: mtL b r else mtL b r
theorem mtL_drop (b : List Int) (l : List (List Sp)) (k : Nat) (h : k < l.length) : mtL b (l.drop k) = if ((l.getD k []).getD 0 (0, 0)).1 < ((l.getD k []).getD 0 (0, 0)).2 then (b.drop ((l.getD k []).getD 0 (0, 0)).1.toNat).take (((l.getD k []).getD 0 (0, 0)).2.toNat - ((l.getD k []).getD 0 (0, 0)).1.toNat) :: mtL b (l.drop (k + 1)) else mtL b (l.drop (k + 1)) := by
  rw [drop_cons l k [] h]; rfl
theorem mtL_len (b : List Int) : ∀ l, (mtL b l).length ≤ l.length
  | [] => Nat.le_refl _
  | m :: r => by
    have := mtL_len b r
    unfold mtL
    split <;> simp <;> omega
set_option maxHeartbeats 2000000 in
theorem matched_any (ao : Option Addr) (n cap : Nat) (b : List Int) (al : Option Addr) (nl cl : Nat) (l : List (List Sp)) (w : World) (hB : BS w ao n cap b) (hS : MS w al nl cl l) (hn : n ≤ 1048576) (hl : nl ≤ 1048576) (hO : ordB n (-1, 0) l = true) :
    Calls Try.prog 21 #[.slice ao n cap, .slice al nl cl] w fun e w' => ∃ v ts, e = .returned v ∧ TO w w' w.heap.size v ts ∧ ts.map Prod.snd = mtL b l ∧ Below w.heap.size w w' := by
  obtain ⟨i0, hi, hz0, hz1, hz2⟩ := info_parts infoBytes
  have hnc := hB.nc
  have hcm := hB.cm
  have hSn := hS.nc
  have hSm := hS.cm
  have HB : Hid (BS w ao n cap b) := hB
  have HS : Hid (MS w al nl cl l) := hS
  have HA : Hid (ordB n (-1, 0) l = true) := hO
  clear hB hS hO
  go_enter Try.func21, Try.ntmps21
  go_wp2
  go_loopw [5, 11] (fun v i wr => ∃ (k : Nat) (p : Sp) (ts : List Tx), k ≤ nl ∧ i = .int .i64 k ∧ Hid (ts.length ≤ k) ∧ Hid (TO w wr w.heap.size v ts) ∧ Hid (ts.map Prod.snd ++ mtL b (l.drop k) = mtL b l) ∧ Hid (ordB n p (l.drop k) = true ∧ 0 ≤ p.2) ∧ Hid (Below w.heap.size w wr)) (fun _ i _ => nl - (intOf i).toNat)
  case atStart => exact ⟨0, (-1, 0), [], Nat.zero_le _, rfl, Nat.le_refl _, TO.nil _ _ _, rfl, ⟨HA.out, Int.le_refl 0⟩, Below.refl _ _⟩
  case round =>
    obtain ⟨k, p, ts, hk, rfl, htk, HR, HC, HP, HBE⟩ := hrel
    have hsz := HBE.out.size
    have htl : ts.length ≤ nl := Nat.le_trans htk.out hk
    by_cases hlt : k < nl
    · obtain ⟨bb, off, rfl, hc⟩ := (HS.out.below HBE.out).at_ (by omega)
      obtain ⟨a, m, c, c0, hs⟩ := hc k hlt
      have hll : k < l.length := by rw [HS.out.len]; exact hlt
      have hm0 : ¬ m = 0 := by
        intro e
        have := HP.out.1
        rw [ord_no _ _ l k hll (by rw [hs.len]; exact e)] at this
        cases this
      have hp := HP.out.1
      rw [ord_go _ _ l k hll (by rw [hs.len]; exact hm0), Bool.and_eq_true] at hp
      obtain ⟨hp1, hp2⟩ := hp
      have hp3 := (og_iff _ _ _).1 hp1
      have hp4 := HP.out.2
      have hcc := HC.out
      rw [mtL_drop b l k hll] at hcc
      obtain ⟨b2, off2, rfl, hc2⟩ := hs.at_ (by omega)
      obtain ⟨q1, q2⟩ := hc2 0 (by omega)
      clear hc hc2 hs HP HC hp1
      generalize (l.getD k []).getD 0 (0, 0) = q at *
      obtain ⟨x, y⟩ := q
      simp only at q1 q2 hp3 hp2 hcc
      simp only [Nat.zero_mul, Nat.add_zero] at q1 q2
      obtain ⟨X, rfl⟩ : ∃ X : Nat, x = X := ⟨x.toNat, by omega⟩
      obtain ⟨Y, rfl⟩ : ∃ Y : Nat, y = Y := ⟨y.toNat, by omega⟩
      rw [show ((X : Int)).toNat = X from by omega, show ((Y : Int)).toNat = Y from by omega] at hcc
      have hg2 := World.block_lt_of_cell? wr _ q1
      simp only at hg2
      have d1 : ∀ o, (wr.alloc o).cell? ⟨b2, off2, none⟩ = some (.int .i64 X) := fun o => (World.cell?_of_block (Below.heap_alloc wr o b2 hg2)).trans q1
      have d2 : ∀ o, (wr.alloc o).cell? ⟨b2, off2 + 1, none⟩ = some (.int .i64 Y) := fun o => (World.cell?_of_block (Below.heap_alloc wr o b2 hg2)).trans q2
      have HP2 : Hid (ordB n ((X : Int), (Y : Int)) (l.drop (k + 1)) = true ∧ 0 ≤ ((X : Int), (Y : Int)).2) := ⟨hp2, by simp⟩
      have R2 : Hid (∀ o o', Below w.heap.size w ((wr.alloc o).alloc o')) := fun o o' => (HBE.out.alloc hsz _).alloc (by simp; omega) _
      have HR2 : Hid (∀ o o', TO w ((wr.alloc o).alloc o') w.heap.size u5 ts) := fun o o' => (HR.out.alloc o).alloc o'
      by_cases hxy : X < Y
      · rw [if_pos (by omega)] at hcc
        have HC2 : Hid (ts.map Prod.snd ++ (b.drop X).take (Y - X) :: mtL b (l.drop (k + 1)) = mtL b l) := hcc
        have hS2 := HB.out.sub X Y (by omega) (by omega)
        rw [if_neg (by omega)] at hS2
        obtain ⟨bo, boff, e, _⟩ := HB.out.at_ (by omega)
        subst e
        have HS2 : Hid (BS w (some ⟨bo, boff + X, none⟩) (Y - X) (cap - X) ((b.drop X).take (Y - X))) := by have h9 := hS2; rw [Option.map_some, Addr.add_lit] at h9; exact h9
        have hxy' : (X : Int) < (Y : Int) := by omega
        have hyc : (Y : Int) ≤ (cap : Int) := by omega
        have hcx : ¬ cap = X := by omega
        have HT : Hid (∀ t ∈ ts, ∃ a m c, t.1 = .slice a m c ∧ BS w a m c t.2) := HR.out.txt
        have HVB : Hid (∀ k, u5.ownBlock = some k → w.heap.size ≤ k) := fun k e => (HR.out.row.lt k e).1
        clear hS2 hcc hp2 hp3 hp4 HR HBE
        go_wp2_with (at_builtin; refine wpList_append_lies _ rfl _ _ 27 rfl w.heap.size 25 i0 (.slice none 0 0) 1 24 Try.underlying27 hi hz0 hz1 hz2 rfl (by decide) _ ts.length _ rfl ((HR2.out _ _).row.alloc _) ⟨wr.heap.size + 1 + 1, 0, none⟩ 1 1 [.slice (some ⟨bo, boff + X, none⟩) (Y - X) (cap - X)] rfl rfl ?c1 ?c2 (by decide) ?c3 ?c4 ?c5 _ rfl ?_)
        case c2 => rfl
        case c3 => unfold maxLen; omega
        case c4 => omega
        case c5 => omega
        · intro g c5 w5 hown hgrow hat hlt5
          have R1 : Hid (TO w w5 w.heap.size (.slice (some ⟨g, 0, none⟩) (ts.length + 1) c5) (ts ++ [(.slice (some ⟨bo, boff + X, none⟩) (Y - X) (cap - X), (b.drop X).take (Y - X))])) := TO.snoc HT.out (fun t h => by simp at h; subst h; exact ⟨_, _, _, rfl, HS2.out⟩) hown
          have R4 : Hid (Below w.heap.size w w5) := Below.grown ((R2.out _ _).alloc (by simp; omega) _) hgrow (by simp; omega) HVB.out
          have R3 : Hid ((ts ++ [((.slice (some ⟨bo, boff + X, none⟩) (Y - X) (cap - X) : Value), (b.drop X).take (Y - X))]).map Prod.snd ++ mtL b (l.drop (k + 1)) = mtL b l) := by rw [List.map_append, List.append_assoc]; exact HC2.out
          have R5 : Hid ((ts ++ [((.slice (some ⟨bo, boff + X, none⟩) (Y - X) (cap - X) : Value), (b.drop X).take (Y - X))]).length ≤ k + 1) := by show _ ≤ _; rw [List.length_append]; have := htk.out; simp; omega
          clear hown hgrow hat hlt5 HR2 HC2 HT HS2
          go_wp2
          go_roundw
          case rel => exact ⟨k + 1, (X, Y), _, by omega, by go_num, R5, R1, R3, HP2, R4⟩
          case measure => simp [intOf]; omega
      · rw [if_neg (by omega)] at hcc
        have HC2 : Hid (ts.map Prod.snd ++ mtL b (l.drop (k + 1)) = mtL b l) := hcc
        have htk2 : Hid (ts.length ≤ k + 1) := Nat.le_succ_of_le htk.out
        have hxy' : ¬ (X : Int) < (Y : Int) := by omega
        clear hcc hp2 hp3 hp4 HR HBE
        go_wp2
        go_roundw
        case rel => exact ⟨k + 1, (X, Y), ts, by omega, by go_num, htk2, HR2.out _ _, HC2, HP2, R2.out _ _⟩
        case measure => simp [intOf]; omega
    · obtain rfl : k = nl := by omega
      have hcc := HC.out
      rw [List.drop_eq_nil_of_le (by rw [HS.out.len]; exact Nat.le_refl _)] at hcc
      simp only [mtL, List.append_nil] at hcc
      have HC2 : Hid (ts.map Prod.snd = mtL b l) := hcc
      clear hcc HC HP
      go_wp2
      go_ret
      exact ⟨_, ts, rfl, HR.out, HC2.out, HBE.out⟩
end Go.Proofs.Ytpdkdfgcnhcmkaa.aud
