/- Whether texts are the same (SameTexts), and bytes written over (Spoil). -/
import Derived.Test.YtfnndnlhdfjggaaEdtSplit
set_option linter.unusedVariables false
set_option linter.unusedSimpArgs false
namespace Go.Proofs.Ytfnndnlhdfjggaa.edt
open Go.RowKit

/-- The value is a row of texts that can be read. -/
structure TV (w : World) (ao : Option Addr) (n cap : Nat) (ls : List (List Int)) : Prop where
  len : ls.length = n
  nc : n ≤ cap
  cm : cap ≤ 9223372036854775807
  cell : n = 0 ∨ ∃ b off, ao = some ⟨b, off, none⟩ ∧ ∀ i, i < n → ∃ a m c, w.cell? ⟨b, off + i, none⟩ = some (.slice a m c) ∧ BS w a m c (ls.getD i [])
theorem TV.below {w w' : World} {ao : Option Addr} {n cap : Nat} {ls : List (List Int)} (h : TV w ao n cap ls) (hb : Below w.heap.size w w') : TV w' ao n cap ls := by
  refine ⟨h.len, h.nc, h.cm, ?_⟩
  rcases h.cell with k | ⟨b, off, rfl, k⟩
  · exact .inl k
  · refine .inr ⟨b, off, rfl, fun i hi => ?_⟩
    obtain ⟨a, m, c, h1, h2⟩ := k i hi
    exact ⟨a, m, c, (hb.cell (World.block_lt_of_cell? w _ h1)).trans h1, h2.below hb⟩
theorem TV.at_ {w : World} {ao : Option Addr} {n cap : Nat} {ls : List (List Int)} (h : TV w ao n cap ls) (h0 : 0 < n) : ∃ b off, ao = some ⟨b, off, none⟩ ∧ ∀ i, i < n → ∃ a m c, w.cell? ⟨b, off + i, none⟩ = some (.slice a m c) ∧ BS w a m c (ls.getD i []) := by
  rcases h.cell with h | h
  · omega
  · exact h
def Byt (l : List Int) : Prop := ∀ x ∈ l, 0 ≤ x ∧ x ≤ 255
theorem RB.tv {w : World} {B : Nat} {v : Value} {ts : List Tx} (h : RB w B v ts) (hr : ∀ t ∈ ts, Byt t.2) : ∃ ao cap, v = .slice ao ts.length cap ∧ TV w ao ts.length cap (ts.map Prod.snd) := by
  have hrow := h.row
  rcases hrow.2 with ⟨rfl, h0⟩ | ⟨g, cap, cur, rfl, _, hgg, hc, hm, _⟩
  · exact ⟨none, 0, by rw [h0], ⟨by rw [List.length_map], by omega, by omega, .inl h0⟩⟩
  · unfold maxLen at hm
    refine ⟨some ⟨g, 0, none⟩, cap, rfl, ⟨by rw [List.length_map], hc, by omega, .inr ⟨g, 0, rfl, fun i hi => ?_⟩⟩⟩
    have hm := List.getElem_mem hi
    obtain ⟨a, c, e, hB⟩ := (h.txt _ hm).bs (range_mem (hr _ hm))
    refine ⟨a, ts[i].2.length, c, ?_, ?_⟩
    · rw [Nat.zero_add, hrow.cellAt i (by omega), List.getElem?_map, List.getElem?_eq_getElem hi, Option.map_some, e]
    · rw [List.getD_eq_getElem?_getD, List.getElem?_map, List.getElem?_eq_getElem hi]; exact hB

set_option maxHeartbeats 1000000 in
theorem eqf_any (a1 a2 : Option Addr) (n c1 c2 : Nat) (ls : List (List Int)) (w : World) (h1 : TV w a1 n c1 ls) (h2 : TV w a2 n c2 ls) :
    Calls Try.prog 35 #[.slice a1 n c1, .slice a2 n c2, .func (.func 12) #[] #[]] w fun e w' => e = .returned (.bool true) ∧ w' = w := by
  have hnc := h1.nc
  have hcm := h1.cm
  have hnc2 := h2.nc
  have H1 : Hid (TV w a1 n c1 ls) := h1
  have H2 : Hid (TV w a2 n c2 ls) := h2
  have hnn : ((n : Int) != (n : Int)) = false := by simp
  clear h1 h2
  go_enter Try.func35, Try.ntmps35
  go_wp2
  go_loopw [17] (fun i wr => ∃ k : Nat, k ≤ n ∧ i = .int .i64 k ∧ wr = w) (fun i _ => n - (intOf i).toNat)
  case atStart => exact ⟨0, Nat.zero_le _, rfl, rfl⟩
  case round =>
    obtain ⟨k, hk, rfl, rfl⟩ := hrel
    by_cases hlt : k < n
    · obtain ⟨b1, o1, rfl, k1⟩ := H1.out.at_ (by omega)
      obtain ⟨b2, o2, rfl, k2⟩ := H2.out.at_ (by omega)
      obtain ⟨x1, m1, d1, p1, q1⟩ := k1 k hlt
      obtain ⟨x2, m2, d2, p2, q2⟩ := k2 k hlt
      have EQ := beq_same _ _ _ wr q1.bts q2.bts
      have hlt' : (k : Int) < (n : Int) := by omega
      clear k1 k2 q1 q2
      go_wp2_with (go_at_call 12; refine EQ.mono ?_; rintro e w' ⟨rfl, hw⟩; subst hw)
      go_roundw
      case rel => exact ⟨k + 1, by omega, by go_num, by first | trivial | rfl⟩
      case measure => simp [intOf]; omega
    · obtain rfl : k = n := by omega
      go_wp2
      go_ret
      exact ⟨rfl, rfl⟩
theorem same_any (a1 a2 : Option Addr) (n c1 c2 : Nat) (ls : List (List Int)) (w : World) (h1 : TV w a1 n c1 ls) (h2 : TV w a2 n c2 ls) :
    Calls Try.prog 20 #[.slice a1 n c1, .slice a2 n c2] w fun e w' => e = .returned (.bool true) ∧ w' = w := by
  have EQ := eqf_any a1 a2 n c1 c2 ls w h1 h2
  clear h1 h2
  go_enter Try.func20, Try.ntmps20
  go_wp2_with fail
  refine EQ.mono ?_
  rintro e w2 ⟨rfl, rfl⟩
  go_wp2
  go_ret
  exact ⟨rfl, rfl⟩

/-- A row of texts whose bytes may be written over; none of them lies below B. -/
structure SV (w : World) (B : Nat) (ao : Option Addr) (n cap : Nat) : Prop where
  nc : n ≤ cap
  cm : cap ≤ 9223372036854775807
  cell : n = 0 ∨ ∃ b off, ao = some ⟨b, off, none⟩ ∧ ∀ i, i < n → ∃ a m c, w.cell? ⟨b, off + i, none⟩ = some (.slice a m c) ∧ m ≤ 9223372036854775807 ∧ (m = 0 ∨ ∃ h o, a = some ⟨h, o, none⟩ ∧ B ≤ h ∧ ∀ j, j < m → (∃ x, w.cell? ⟨h, o + j, none⟩ = some (.int .u8 x)) ∧ w.frozen? ⟨h, o + j, none⟩ = false)
theorem SV.set {w : World} {B : Nat} {ao : Option Addr} {n cap : Nat} (h : SV w B ao n cap) {p : Addr} {x : Int} (hp : w.cell? p = some (.int .u8 x)) (y : Int) : SV (w.setCell p (.int .u8 y)) B ao n cap := by
  refine ⟨h.nc, h.cm, ?_⟩
  rcases h.cell with k | ⟨b, off, rfl, k⟩
  · exact .inl k
  · refine .inr ⟨b, off, rfl, fun i hi => ?_⟩
    obtain ⟨a, m, c, h1, h2, h3⟩ := k i hi
    refine ⟨a, m, c, ?_, h2, ?_⟩
    · rw [World.cell?_setCell_other _ _ _ _ (by intro e; rw [e, h1] at hp; cases hp)]; exact h1
    · rcases h3 with h3 | ⟨g, o, rfl, hB, hc⟩
      · exact .inl h3
      · refine .inr ⟨g, o, rfl, hB, fun j hj => ?_⟩
        obtain ⟨⟨z, hz⟩, hf⟩ := hc j hj
        refine ⟨?_, by rw [World.frozen?_setCell]; exact hf⟩
        by_cases e : p = ⟨g, o + j, none⟩
        · subst e; exact ⟨y, World.cell?_setCell_same _ _ _ hz⟩
        · exact ⟨z, by rw [World.cell?_setCell_other _ _ _ _ e]; exact hz⟩
theorem SV.at_ {w : World} {B : Nat} {ao : Option Addr} {n cap : Nat} (h : SV w B ao n cap) (h0 : 0 < n) : ∃ b off, ao = some ⟨b, off, none⟩ ∧ ∀ i, i < n → ∃ a m c, w.cell? ⟨b, off + i, none⟩ = some (.slice a m c) ∧ m ≤ 9223372036854775807 ∧ (m = 0 ∨ ∃ h o, a = some ⟨h, o, none⟩ ∧ B ≤ h ∧ ∀ j, j < m → (∃ x, w.cell? ⟨h, o + j, none⟩ = some (.int .u8 x)) ∧ w.frozen? ⟨h, o + j, none⟩ = false) := by
  rcases h.cell with h | h
  · omega
  · exact h
set_option maxHeartbeats 1000000 in
theorem spoil_any (B : Nat) (ao : Option Addr) (n cap : Nat) (w : World) (hS : SV w B ao n cap) :
    Calls Try.prog 13 #[.slice ao n cap] w fun e w' => e = .returned (.tuple #[]) ∧ Below B w w' := by
  have hnc := hS.nc
  have hcm := hS.cm
  have HS0 : Hid (SV w B ao n cap) := hS
  clear hS
  go_enter Try.func13, Try.ntmps13
  go_wp2
  go_loopw [7] (fun i wr => ∃ k : Nat, k ≤ n ∧ i = .int .i64 k ∧ Hid (SV wr B ao n cap) ∧ Hid (Below B w wr)) (fun i _ => n - (intOf i).toNat)
  case atStart => exact ⟨0, Nat.zero_le _, rfl, HS0, Below.refl _ _⟩
  case round =>
    clear HS0
    obtain ⟨k, hk, rfl, HS, HBE⟩ := hrel
    by_cases hlt : k < n
    · obtain ⟨b, off, rfl, kk⟩ := HS.out.at_ (by omega)
      obtain ⟨a, m, c, p1, hm, p2⟩ := kk k hlt
      have hlt' : (k : Int) < (n : Int) := by omega
      clear kk
      go_wp2
      go_loopw [13] (fun i wq => ∃ j : Nat, j ≤ m ∧ i = .int .i64 j ∧ Hid (SV wq B (some ⟨b, off, none⟩) n cap ∧ wq.cell? ⟨b, off + k, none⟩ = some (.slice a m c) ∧ (m = 0 ∨ ∃ h o, a = some ⟨h, o, none⟩ ∧ B ≤ h ∧ ∀ j, j < m → (∃ x, wq.cell? ⟨h, o + j, none⟩ = some (.int .u8 x)) ∧ wq.frozen? ⟨h, o + j, none⟩ = false)) ∧ Hid (Below B w wq)) (fun i _ => m - (intOf i).toNat)
      case atStart => exact ⟨0, Nat.zero_le _, rfl, ⟨HS.out, p1, p2⟩, HBE⟩
      case round =>
        clear HS HBE p1 p2
        obtain ⟨j, hj, rfl, HI, HBE⟩ := hrel
        by_cases hjl : j < m
        · obtain ⟨hs, hc1, hc2⟩ := HI.out
          rcases hc2 with h0 | ⟨h, o, rfl, hB, hc⟩
          · omega
          · obtain ⟨⟨x, hx⟩, hf⟩ := hc j hjl
            have hjl' : (j : Int) < (m : Int) := by omega
            have step : ∀ y, SV (wr.setCell ⟨h, o + j, none⟩ (.int .u8 y)) B (some ⟨b, off, none⟩) n cap ∧ (wr.setCell ⟨h, o + j, none⟩ (.int .u8 y)).cell? ⟨b, off + k, none⟩ = some (.slice (some ⟨h, o, none⟩) m c) ∧ (m = 0 ∨ ∃ h' o', some ⟨h, o, none⟩ = some (⟨h', o', none⟩ : Addr) ∧ B ≤ h' ∧ ∀ j', j' < m → (∃ x, (wr.setCell ⟨h, o + j, none⟩ (.int .u8 y)).cell? ⟨h', o' + j', none⟩ = some (.int .u8 x)) ∧ (wr.setCell ⟨h, o + j, none⟩ (.int .u8 y)).frozen? ⟨h', o' + j', none⟩ = false) := by
              intro y
              refine ⟨hs.set hx y, ?_, .inr ⟨h, o, rfl, hB, fun j' hj' => ?_⟩⟩
              · rw [World.cell?_setCell_other _ _ _ _ (by intro e; rw [e, hc1] at hx; cases hx)]; exact hc1
              · obtain ⟨⟨z, hz⟩, hf'⟩ := hc j' hj'
                refine ⟨?_, by rw [World.frozen?_setCell]; exact hf'⟩
                by_cases e : (⟨h, o + j, none⟩ : Addr) = ⟨h, o + j', none⟩
                · rw [← e]; exact ⟨y, World.cell?_setCell_same _ _ _ hx⟩
                · exact ⟨z, by rw [World.cell?_setCell_other _ _ _ _ e]; exact hz⟩
            have HST : Hid (∀ y, SV (wr.setCell ⟨h, o + j, none⟩ (.int .u8 y)) B (some ⟨b, off, none⟩) n cap ∧ (wr.setCell ⟨h, o + j, none⟩ (.int .u8 y)).cell? ⟨b, off + k, none⟩ = some (.slice (some ⟨h, o, none⟩) m c) ∧ (m = 0 ∨ ∃ h' o', some ⟨h, o, none⟩ = some (⟨h', o', none⟩ : Addr) ∧ B ≤ h' ∧ ∀ j', j' < m → (∃ x, (wr.setCell ⟨h, o + j, none⟩ (.int .u8 y)).cell? ⟨h', o' + j', none⟩ = some (.int .u8 x)) ∧ (wr.setCell ⟨h, o + j, none⟩ (.int .u8 y)).frozen? ⟨h', o' + j', none⟩ = false)) := step
            have HB2 : Hid (∀ y, Below B w (wr.setCell ⟨h, o + j, none⟩ (.int .u8 y))) := fun y => HBE.out.setCell hB _
            clear step hc hs hc1 HI HBE
            go_wp2
            go_roundw
            case rel => exact ⟨j + 1, by omega, by go_num, HST.out _, HB2.out _⟩
            case measure => simp [intOf]; omega
        · obtain rfl : j = m := by omega
          have HS2 : Hid (SV wr B (some ⟨b, off, none⟩) n cap) := HI.out.1
          clear HI
          go_wp2
          go_roundw
          case rel => exact ⟨k + 1, by omega, by go_num, HS2, HBE⟩
          case measure => simp [intOf]; omega
    · obtain rfl : k = n := by omega
      go_wp2
      go_end0
      exact ⟨rfl, HBE.out⟩
end Go.Proofs.Ytfnndnlhdfjggaa.edt
