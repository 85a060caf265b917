/- Bytes written over (Spoil): what else lies in memory stays; parts of a template that can be read; whether two rows of them are the same. -/
import Derived.Test.YtfnndnlhdfjggaaEdtSame
import Derived.Test.YtfnndnlhdfjggaaEdtRTmpl
set_option linter.unusedVariables false
set_option linter.unusedSimpArgs false
namespace Go.Proofs.Ytfnndnlhdfjggaa.edt
open Go.RowKit

/-- Cells that hold bytes hold bytes, all others what they held. -/
structure Spl (w w' : World) : Prop where
  cell : ∀ (p : Addr) (v : Value), w.cell? p = some v → (∃ x y, v = .int .u8 x ∧ w'.cell? p = some (.int .u8 y)) ∨ w'.cell? p = some v
  froz : ∀ p : Addr, w'.frozen? p = w.frozen? p
theorem Spl.refl (w : World) : Spl w w := ⟨fun _ _ h => .inr h, fun _ => rfl⟩
theorem Spl.set {a w : World} (h : Spl a w) {p : Addr} {x : Int} (hp : w.cell? p = some (.int .u8 x)) (y : Int) : Spl a (w.setCell p (.int .u8 y)) := by
  refine ⟨fun q v hq => ?_, fun q => by rw [World.frozen?_setCell]; exact h.froz q⟩
  by_cases e : p = q
  · subst e
    have e2 := World.cell?_setCell_same w p (.int .u8 y) hp
    rcases h.cell p v hq with ⟨z, z', rfl, _⟩ | h1
    · exact .inl ⟨z, y, rfl, e2⟩
    · rw [hp] at h1; cases h1; exact .inl ⟨x, y, rfl, e2⟩
  · rw [World.cell?_setCell_other _ _ _ _ e]; exact h.cell q v hq
theorem Spl.below {w w' : World} (h : Below w.heap.size w w') (hf : ∀ p : Addr, p.block < w.heap.size → w'.frozen? p = w.frozen? p) (q : Addr) (v : Value) (hq : w.cell? q = some v) : w'.cell? q = some v := (h.cell (World.block_lt_of_cell? w _ hq)).trans hq
set_option maxHeartbeats 1000000 in
theorem spoil2_any (B : Nat) (ao : Option Addr) (n cap : Nat) (w : World) (hS : SV w B ao n cap) :
    Calls Try.prog 13 #[.slice ao n cap] w fun e w' => e = .returned (.tuple #[]) ∧ Below B w w' ∧ Spl w w' := by
  have hnc := hS.nc
  have hcm := hS.cm
  have HS0 : Hid (SV w B ao n cap) := hS
  clear hS
  go_enter Try.func13, Try.ntmps13
  go_wp2
  go_loopw [7] (fun i wr => ∃ k : Nat, k ≤ n ∧ i = .int .i64 k ∧ Hid (SV wr B ao n cap) ∧ Hid (Below B w wr ∧ Spl w wr)) (fun i _ => n - (intOf i).toNat)
  case atStart => exact ⟨0, Nat.zero_le _, rfl, HS0, ⟨Below.refl _ _, Spl.refl _⟩⟩
  case round =>
    clear HS0
    obtain ⟨k, hk, rfl, HS, HBE⟩ := hrel
    by_cases hlt : k < n
    · obtain ⟨b, off, rfl, kk⟩ := HS.out.at_ (by omega)
      obtain ⟨a, m, c, p1, hm, p2⟩ := kk k hlt
      have hlt' : (k : Int) < (n : Int) := by omega
      clear kk
      go_wp2
      go_loopw [13] (fun i wq => ∃ j : Nat, j ≤ m ∧ i = .int .i64 j ∧ Hid (SV wq B (some ⟨b, off, none⟩) n cap ∧ wq.cell? ⟨b, off + k, none⟩ = some (.slice a m c) ∧ (m = 0 ∨ ∃ h o, a = some ⟨h, o, none⟩ ∧ B ≤ h ∧ ∀ j, j < m → (∃ x, wq.cell? ⟨h, o + j, none⟩ = some (.int .u8 x)) ∧ wq.frozen? ⟨h, o + j, none⟩ = false)) ∧ Hid (Below B w wq ∧ Spl w wq)) (fun i _ => m - (intOf i).toNat)
      case atStart => exact ⟨0, Nat.zero_le _, rfl, ⟨HS.out, p1, p2⟩, HBE⟩
      case round =>
        clear HS HBE p1 p2
        obtain ⟨j, hj, rfl, HI, HBE⟩ := hrel
        by_cases hjl : j < m
        · obtain ⟨hs, hc1, hc2⟩ := HI.out
          rcases hc2 with h0 | ⟨h, o, rfl, hB, hc⟩
          · omega
          · obtain ⟨⟨x, hx⟩, hf⟩ := hc j hjl
            have hjl' : (j : Int) < (m : Int) := by omega
            have step : ∀ y, SV (wr.setCell ⟨h, o + j, none⟩ (.int .u8 y)) B (some ⟨b, off, none⟩) n cap ∧ (wr.setCell ⟨h, o + j, none⟩ (.int .u8 y)).cell? ⟨b, off + k, none⟩ = some (.slice (some ⟨h, o, none⟩) m c) ∧ (m = 0 ∨ ∃ h' o', some ⟨h, o, none⟩ = some (⟨h', o', none⟩ : Addr) ∧ B ≤ h' ∧ ∀ j', j' < m → (∃ x, (wr.setCell ⟨h, o + j, none⟩ (.int .u8 y)).cell? ⟨h', o' + j', none⟩ = some (.int .u8 x)) ∧ (wr.setCell ⟨h, o + j, none⟩ (.int .u8 y)).frozen? ⟨h', o' + j', none⟩ = false) := by
              intro y
              refine ⟨hs.set hx y, ?_, .inr ⟨h, o, rfl, hB, fun j' hj' => ?_⟩⟩
              · rw [World.cell?_setCell_other _ _ _ _ (by intro e; rw [e, hc1] at hx; cases hx)]; exact hc1
              · obtain ⟨⟨z, hz⟩, hf'⟩ := hc j' hj'
                refine ⟨?_, by rw [World.frozen?_setCell]; exact hf'⟩
                by_cases e : (⟨h, o + j, none⟩ : Addr) = ⟨h, o + j', none⟩
                · rw [← e]; exact ⟨y, World.cell?_setCell_same _ _ _ hx⟩
                · exact ⟨z, by rw [World.cell?_setCell_other _ _ _ _ e]; exact hz⟩
            have HST : Hid (∀ y, SV (wr.setCell ⟨h, o + j, none⟩ (.int .u8 y)) B (some ⟨b, off, none⟩) n cap ∧ (wr.setCell ⟨h, o + j, none⟩ (.int .u8 y)).cell? ⟨b, off + k, none⟩ = some (.slice (some ⟨h, o, none⟩) m c) ∧ (m = 0 ∨ ∃ h' o', some ⟨h, o, none⟩ = some (⟨h', o', none⟩ : Addr) ∧ B ≤ h' ∧ ∀ j', j' < m → (∃ x, (wr.setCell ⟨h, o + j, none⟩ (.int .u8 y)).cell? ⟨h', o' + j', none⟩ = some (.int .u8 x)) ∧ (wr.setCell ⟨h, o + j, none⟩ (.int .u8 y)).frozen? ⟨h', o' + j', none⟩ = false)) := step
            have HB2 : Hid (∀ y, Below B w (wr.setCell ⟨h, o + j, none⟩ (.int .u8 y)) ∧ Spl w (wr.setCell ⟨h, o + j, none⟩ (.int .u8 y))) := fun y => ⟨HBE.out.1.setCell hB _, HBE.out.2.set hx y⟩
            clear step hc hs hc1 HI HBE
            go_wp2
            go_roundw
            case rel => exact ⟨j + 1, by omega, by go_num, HST.out _, HB2.out _⟩
            case measure => simp [intOf]; omega
        · obtain rfl : j = m := by omega
          have HS2 : Hid (SV wr B (some ⟨b, off, none⟩) n cap) := HI.out.1
          clear HI
          go_wp2
          go_roundw
          case rel => exact ⟨k + 1, by omega, by go_num, HS2, HBE⟩
          case measure => simp [intOf]; omega
    · obtain rfl : k = n := by omega
      go_wp2
      go_end0
      exact ⟨rfl, HBE.out.1, HBE.out.2⟩

/-- Parts whose texts may be written over; none of these lies below B. -/
structure QV (w : World) (B : Nat) (ao : Option Addr) (n cap : Nat) : Prop where
  nc : n ≤ cap
  cm : cap ≤ 9223372036854775807
  cell : n = 0 ∨ ∃ b, ao = some ⟨b, 0, none⟩ ∧ ∀ i, i < n → ∃ a m c A, w.cell? ⟨b, i * 2, none⟩ = some (.slice a m c) ∧ w.cell? ⟨b, i * 2 + 1, none⟩ = some (.int .i64 A) ∧ m ≤ 9223372036854775807 ∧ (m = 0 ∨ ∃ h, a = some ⟨h, 0, none⟩ ∧ B ≤ h ∧ ∀ j, j < m → (∃ x, w.cell? ⟨h, j, none⟩ = some (.int .u8 x)) ∧ w.frozen? ⟨h, j, none⟩ = false)
theorem QV.spl {w w' : World} {B : Nat} {ao : Option Addr} {n cap : Nat} (h : QV w B ao n cap) (hs : Spl w w') : QV w' B ao n cap := by
  refine ⟨h.nc, h.cm, ?_⟩
  rcases h.cell with k | ⟨b, rfl, k⟩
  · exact .inl k
  · refine .inr ⟨b, rfl, fun i hi => ?_⟩
    obtain ⟨a, m, c, A, h1, h2, h3, h4⟩ := k i hi
    have e1 : w'.cell? ⟨b, i * 2, none⟩ = some (.slice a m c) := by
      rcases hs.cell _ _ h1 with ⟨x, y, e, _⟩ | e
      · cases e
      · exact e
    have e2 : w'.cell? ⟨b, i * 2 + 1, none⟩ = some (.int .i64 A) := by
      rcases hs.cell _ _ h2 with ⟨x, y, e, _⟩ | e
      · cases e
      · exact e
    refine ⟨a, m, c, A, e1, e2, h3, ?_⟩
    rcases h4 with h4 | ⟨g, rfl, hB, hc⟩
    · exact .inl h4
    · refine .inr ⟨g, rfl, hB, fun j hj => ?_⟩
      obtain ⟨⟨x, hx⟩, hf⟩ := hc j hj
      refine ⟨?_, by rw [hs.froz]; exact hf⟩
      rcases hs.cell _ _ hx with ⟨_, y, _, e⟩ | e
      · exact ⟨y, e⟩
      · exact ⟨x, e⟩
theorem QV.below {w w' : World} {B : Nat} {ao : Option Addr} {n cap : Nat} (h : QV w B ao n cap) (hb : Below w.heap.size w w') : QV w' B ao n cap := by
  refine ⟨h.nc, h.cm, ?_⟩
  have keep : ∀ (p : Addr) (v : Value), w.cell? p = some v → w'.cell? p = some v := fun p v hp => (hb.cell (World.block_lt_of_cell? w _ hp)).trans hp
  rcases h.cell with k | ⟨b, rfl, k⟩
  · exact .inl k
  · refine .inr ⟨b, rfl, fun i hi => ?_⟩
    obtain ⟨a, m, c, A, h1, h2, h3, h4⟩ := k i hi
    refine ⟨a, m, c, A, keep _ _ h1, keep _ _ h2, h3, ?_⟩
    rcases h4 with h4 | ⟨g, rfl, hB, hc⟩
    · exact .inl h4
    · refine .inr ⟨g, rfl, hB, fun j hj => ?_⟩
      obtain ⟨⟨x, hx⟩, hf⟩ := hc j hj
      exact ⟨⟨x, keep _ _ hx⟩, (hb.frozen (World.block_lt_of_cell? w _ hx)).trans hf⟩
theorem PsAt.qv {w : World} {B : Nat} {e : TypeId} {qs : List Qt} {ao : Option Addr} {n cap : Nat} (h : PsAt w B e (.slice ao n cap) qs) (hn : n = qs.length) : QV w B ao n cap := by
  subst hn
  have hrow := h.row
  rcases hrow.2 with ⟨e1, h0⟩ | ⟨g, cap', cur, e1, _, hgg, hc, hm, _⟩
  · simp only [Value.slice.injEq] at e1
    obtain ⟨rfl, _, rfl⟩ := e1
    exact ⟨by omega, by omega, .inl h0⟩
  · simp only [Value.slice.injEq, true_and] at e1
    obtain ⟨rfl, rfl⟩ := e1
    unfold maxLen at hm
    refine ⟨hc, by omega, .inr ⟨g, rfl, fun i hi => ?_⟩⟩
    obtain ⟨c1, c2⟩ := flatP_get qs i _ (List.getElem?_eq_getElem hi)
    have ht := h.txt _ (List.getElem_mem hi)
    have ht' := ht
    rcases ht.2 with ⟨e2, h2⟩ | ⟨g2, c3, cur2, e2, hb2, hg2, hc2, hm2, _⟩
    · exact ⟨none, 0, 0, _, by rw [hrow.cellAt _ (by omega), c1, e2], (hrow.cellAt _ (by omega)).trans c2, by omega, .inl rfl⟩
    · unfold maxLen at hm2
      unfold OB at ht'
      rw [e2] at ht'
      refine ⟨_, _, _, _, by rw [hrow.cellAt _ (by omega), c1, e2], (hrow.cellAt _ (by omega)).trans c2, by omega, .inr ⟨g2, rfl, hb2, fun j hj => ⟨?_, ht'.frozenAt _⟩⟩⟩
      rw [ht'.cellAt j (by omega)]
      exact ⟨(qs[i]'hi).2.1[j], by simp [hj]⟩
/-- Parts that can be read. -/
structure PV (w : World) (ao : Option Addr) (n cap : Nat) (ps : List Pt) : Prop where
  len : ps.length = n
  nc : n ≤ cap
  cm : cap ≤ 9223372036854775807
  cell : n = 0 ∨ ∃ b, ao = some ⟨b, 0, none⟩ ∧ ∀ i, i < n → ∃ a m c, w.cell? ⟨b, i * 2, none⟩ = some (.slice a m c) ∧ w.cell? ⟨b, i * 2 + 1, none⟩ = some (.int .i64 (ps.getD i ([], 0)).2) ∧ BS w a m c (ps.getD i ([], 0)).1
theorem PV.below {w w' : World} {ao : Option Addr} {n cap : Nat} {ps : List Pt} (h : PV w ao n cap ps) (hb : Below w.heap.size w w') : PV w' ao n cap ps := by
  refine ⟨h.len, h.nc, h.cm, ?_⟩
  rcases h.cell with k | ⟨b, rfl, k⟩
  · exact .inl k
  · refine .inr ⟨b, rfl, fun i hi => ?_⟩
    obtain ⟨a, m, c, h1, h2, h3⟩ := k i hi
    exact ⟨a, m, c, (hb.cell (World.block_lt_of_cell? w _ h1)).trans h1, (hb.cell (World.block_lt_of_cell? w _ h2)).trans h2, h3.below hb⟩
theorem PV.at_ {w : World} {ao : Option Addr} {n cap : Nat} {ps : List Pt} (h : PV w ao n cap ps) (h0 : 0 < n) : ∃ b, ao = some ⟨b, 0, none⟩ ∧ ∀ i, i < n → ∃ a m c, w.cell? ⟨b, i * 2, none⟩ = some (.slice a m c) ∧ w.cell? ⟨b, i * 2 + 1, none⟩ = some (.int .i64 (ps.getD i ([], 0)).2) ∧ BS w a m c (ps.getD i ([], 0)).1 := by
  rcases h.cell with h | h
  · omega
  · exact h
theorem PsAt.pv {w : World} {B : Nat} {e : TypeId} {v : Value} {qs : List Qt} (h : PsAt w B e v qs) (hr : ∀ q ∈ qs, Byt q.2.1) : ∃ ao cap, v = .slice ao qs.length cap ∧ PV w ao qs.length cap (qs.map Prod.snd) := by
  have hrow := h.row
  rcases hrow.2 with ⟨rfl, h0⟩ | ⟨g, cap, cur, rfl, _, hgg, hc, hm, _⟩
  · exact ⟨none, 0, by rw [h0], ⟨by rw [List.length_map], by omega, by omega, .inl h0⟩⟩
  · unfold maxLen at hm
    refine ⟨_, cap, rfl, ⟨by rw [List.length_map], hc, by omega, .inr ⟨g, rfl, fun i hi => ?_⟩⟩⟩
    obtain ⟨c1, c2⟩ := flatP_get qs i _ (List.getElem?_eq_getElem hi)
    have hm := List.getElem_mem hi
    obtain ⟨a, c, e2, hB⟩ := (h.txt _ hm).bs (range_mem (hr _ hm))
    have eg : (qs.map Prod.snd).getD i ([], 0) = (qs[i]'hi).2 := by rw [List.getD_eq_getElem?_getD, List.getElem?_map, List.getElem?_eq_getElem hi]; rfl
    rw [eg]
    exact ⟨a, _, c, by rw [hrow.cellAt _ (by omega), c1, e2], (hrow.cellAt _ (by omega)).trans c2, hB⟩
/-- The texts of a template's parts are bytes. -/
theorem addT_byt {ps : List Pt} {c : Int} (h : ∀ p ∈ ps, Byt p.1) (hc : 0 ≤ c ∧ c ≤ 255) : ∀ p ∈ addT ps [c], Byt p.1 := by
  have one : Byt [c] := fun x hx => by simp at hx; subst hx; exact hc
  rcases List.eq_nil_or_concat ps with rfl | ⟨l, q, rfl⟩
  · intro p hp; simp [addT_nil] at hp; subst hp; exact one
  · obtain ⟨t, a⟩ := q
    rw [List.concat_eq_append] at *
    rw [addT_snoc]
    split
    · intro p hp
      rcases List.mem_append.1 hp with hp | hp
      · exact h p (List.mem_append_left _ hp)
      · obtain rfl : p = (t ++ [c], -1) := by simpa using hp
        intro x hx
        rcases List.mem_append.1 hx with hx | hx
        · exact h (t, a) (by simp) x hx
        · exact one x hx
    · intro p hp
      rcases List.mem_append.1 hp with hp | hp
      · exact h p hp
      · obtain rfl : p = ([c], -1) := by simpa using hp
        exact one
theorem mk_txt {r : List Int} {c : Int} {s : Nat} (h : mk r = .txt c s) (hr : ∀ i, 0 ≤ r.getD i 0 ∧ r.getD i 0 ≤ 255) : 0 ≤ c ∧ c ≤ 255 := by
  unfold mk at h
  split at h
  · cases h; exact hr 0
  split at h
  · cases h; omega
  split at h
  · unfold mkB at h
    split at h
    · cases h
    split at h
    · cases h
    split at h <;> cases h
  split at h
  · split at h <;> cases h
  · cases h
theorem snoc_byt {ps : List Pt} (h : ∀ p ∈ ps, Byt p.1) (a : Int) : ∀ p ∈ ps ++ [(([] : List Int), a)], Byt p.1 := by
  intro p hp
  rcases List.mem_append.1 hp with hp | hp
  · exact h p hp
  · obtain rfl : p = ([], a) := by simpa using hp
    intro x hx; cases hx
theorem tm_byt (l : List Int) (hl : ∀ i, 0 ≤ l.getD i 0 ∧ l.getD i 0 ≤ 255) (groups : Int) (T : List ByteArray) : ∀ (f a : Nat) (acc ps : List Pt), (∀ p ∈ acc, Byt p.1) → tm l groups T f a acc = .ok ps → ∀ p ∈ ps, Byt p.1
  | 0, a, acc, ps, h, e => by cases e; exact h
  | f + 1, a, acc, ps, h, e => by
    by_cases ha : a < l.length
    · rw [tm_step l groups T f a acc ha] at e
      cases hm : mk (l.drop a) with
      | bad => rw [hm] at e; cases e
      | txt c s =>
        rw [hm] at e
        exact tm_byt l hl groups T f _ _ ps (addT_byt h (mk_txt hm (fun i => by rw [List.getD_eq_getElem?_getD, List.getElem?_drop, ← List.getD_eq_getElem?_getD]; exact hl _))) e
      | num d s =>
        rw [hm] at e
        simp only at e
        split at e
        · exact tm_byt l hl groups T f _ _ ps (snoc_byt h _) e
        · cases e
      | nam d s =>
        rw [hm] at e
        simp only at e
        split at e
        · exact tm_byt l hl groups T f _ _ ps (snoc_byt h _) e
        · cases e
    · rw [tm, if_neg ha] at e; cases e; exact h
end Go.Proofs.Ytfnndnlhdfjggaa.edt
