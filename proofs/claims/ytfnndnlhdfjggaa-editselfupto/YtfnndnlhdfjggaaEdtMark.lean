/- What edit.markOf answers: with which mark bytes begin. -/
import Derived.Test.YtfnndnlhdfjggaaEdtSmall
import Derived.Lib.SlBytesConst
set_option linter.unusedVariables false
set_option linter.unusedSimpArgs false
namespace Go.Proofs.Ytfnndnlhdfjggaa.edt
open Go.RowKit

/-- With which mark bytes begin: with none that can be, with a byte for itself, with a group's number, with its name; and how long it is. -/
inductive Mk where
  | bad
  | txt (c : Int) (size : Nat)
  | num (l : List Int) (size : Nat)
  | nam (l : List Int) (size : Nat)
def mkB (l : List Int) : Mk :=
  if ix 125 l ≤ 2 then .bad
  else if ((l.drop 2).take ((ix 125 l).toNat - 2)).all dg && decide ((ix 125 l).toNat - 2 ≤ 3) then .num ((l.drop 2).take ((ix 125 l).toNat - 2)) ((ix 125 l).toNat + 1)
  else if ((l.drop 2).take ((ix 125 l).toNat - 2)).all ld && !dg (l.getD 2 0) then .nam ((l.drop 2).take ((ix 125 l).toNat - 2)) ((ix 125 l).toNat + 1)
  else .bad
def mk (l : List Int) : Mk :=
  if ¬ l.getD 0 0 = 36 then .txt (l.getD 0 0) 1
  else if l.getD 1 0 = 36 then .txt 36 2
  else if l.getD 1 0 = 123 then mkB l
  else if dg (l.getD 1 0) then (if dg (l.getD 2 0) then .num [l.getD 1 0, l.getD 2 0] 3 else .num [l.getD 1 0] 2)
  else .bad
/-- A mark as a value. -/
def MkV (w : World) : Mk → Value → Prop
  | .bad, v => ∃ x y z k, v = .agg #[.int .i64 0, .slice x y z, .int .i64 k]
  | .txt c s, v => ∃ ao cap, v = .agg #[.int .i64 1, .slice ao 1 cap, .int .i64 s] ∧ BS w ao 1 cap [c]
  | .num l s, v => ∃ ao cap, v = .agg #[.int .i64 2, .slice ao l.length cap, .int .i64 s] ∧ BS w ao l.length cap l ∧ l.length ≤ 3 ∧ (∀ x ∈ l, dg x = true)
  | .nam l s, v => ∃ ao cap, v = .agg #[.int .i64 3, .slice ao l.length cap, .int .i64 s] ∧ BS w ao l.length cap l

theorem blk3 {w : World} {g : Nat} {x y z : Value} {t : TypeId} (h : w.heap[g]? = some (.cells #[x, y, z] t (0, 0))) :
    (w.cell? ⟨g, 0, none⟩ = some x ∧ w.cell? ⟨g, 1, none⟩ = some y ∧ w.cell? ⟨g, 2, none⟩ = some z) ∧ (w.frozen? ⟨g, 0, none⟩ = false ∧ w.frozen? ⟨g, 1, none⟩ = false ∧ w.frozen? ⟨g, 2, none⟩ = false) := by
  simp [World.cell?, World.frozen?, h]
theorem infoMark : (Try.prog.info? 61).map (·.size) = some 3 := by kernel_rfl
theorem set3 {w : World} {g : Nat} {x y z x' y' z' : Value} {t : TypeId} (h : w.heap[g]? = some (.cells #[x, y, z] t (0, 0))) : (((w.setCell ⟨g, 0, none⟩ x').setCell ⟨g, 1, none⟩ y').setCell ⟨g, 2, none⟩ z').heap[g]? = some (.cells #[x', y', z'] t (0, 0)) :=
  heap_setCell_same _ g 2 _ _ _ (heap_setCell_same _ g 1 _ _ _ (heap_setCell_same w g 0 _ _ _ h))
theorem MkV.below {w w' : World} {M : Mk} {v : Value} (h : MkV w M v) (hb : Below w.heap.size w w') : MkV w' M v := by
  cases M with
  | bad => exact h
  | txt c s => obtain ⟨ao, cap, e, hB⟩ := h; exact ⟨ao, cap, e, hB.below hb⟩
  | num l s => obtain ⟨ao, cap, e, hB, h2⟩ := h; exact ⟨ao, cap, e, hB.below hb, h2⟩
  | nam l s => obtain ⟨ao, cap, e, hB⟩ := h; exact ⟨ao, cap, e, hB.below hb⟩
theorem MkV.form {w : World} {M : Mk} {v : Value} (h : MkV w M v) : ∃ (x : Int) (y1 : Option Addr) (y2 y3 : Nat) (z : Int), v = .agg #[.int .i64 x, .slice y1 y2 y3, .int .i64 z] := by
  cases M with
  | bad => obtain ⟨x, y, z, k, rfl⟩ := h; exact ⟨_, _, _, _, _, rfl⟩
  | txt c s => obtain ⟨ao, cap, rfl, _⟩ := h; exact ⟨_, _, _, _, _, rfl⟩
  | num c s => obtain ⟨ao, cap, rfl, _⟩ := h; exact ⟨_, _, _, _, _, rfl⟩
  | nam c s => obtain ⟨ao, cap, rfl, _⟩ := h; exact ⟨_, _, _, _, _, rfl⟩
/-- The conversion that stands behind a constant's bytes. -/
theorem const_at (w : World) (C : Array Value) (n c g : Nat) (hg : g = w.heap.size) :
    (convert 22 22 (.slice (some ⟨g, 0, none⟩) n c)).run Try.prog (w.alloc (.cells C 5)) = .ok (.slice (some ⟨g, 0, none⟩) n c) (w.alloc (.cells C 5 (C.size, C.size + 1))) := by
  subst hg; exact Lib.run_convert_bytes_const w 22 5 C n c Try.underlying22 Try.underlying5
theorem bytesOf_one (x c : Int) (hx : 0 ≤ x ∧ x ≤ 255) (hc : 0 ≤ c ∧ c ≤ 255) : (Lib.bytesOf [x] == Lib.bytesOf [c]) = decide (x = c) := by
  have := ofNat_eq hx.1 hx.2 hc.1 hc.2
  simp only [Lib.bytesOf, List.map_cons, List.map_nil]
  rw [← this]
  simp
theorem has_any (ao : Option Addr) (n cap : Nat) (l : List Int) (g : Nat) (c : Int) (fz : Nat × Nat) (hc : 0 < c ∧ c ≤ 255) (w : World) (hB : BS w ao n cap l) (hg : w.heap[g]? = some (.cells #[.int .u8 c] 5 fz)) :
    Calls Try.prog 37 #[.slice ao n cap, .slice (some ⟨g, 0, none⟩) 1 1] w fun e w' => e = .returned (.bool (decide (l.getD 0 0 = c))) ∧ w' = w := by
  have hl := hB.len
  rcases Nat.eq_zero_or_pos n with h0 | h0
  · subst h0
    obtain rfl : l = [] := List.eq_nil_of_length_eq_zero hl
    have e0 : decide ((([] : List Int).getD 0 0) = c) = false := decide_eq_false (by simp; omega)
    rw [e0]
    clear hB
    go_enter Try.func37, Try.ntmps37
    go_wp2
    go_ret
    exact ⟨rfl, rfl⟩
  · obtain ⟨b, off, rfl, hcc⟩ := hB.at_ h0
    have hn := hB.nc
    have hm := hB.cm
    have B1 : BS w (some ⟨b, off, none⟩) 1 cap [l.getD 0 0] := ⟨rfl, by omega, hm, (fun e => by cases e), range_mem (fun x hx => by simp at hx; subst hx; exact hB.rg 0), .inr ⟨b, off, rfl, fun i hi => by
      obtain rfl : i = 0 := by omega
      simpa using hcc 0 h0⟩⟩
    have B2 : BS w (some ⟨g, 0, none⟩) 1 1 [c] := ⟨rfl, by omega, by omega, (fun e => by cases e), range_mem (fun x hx => by simp at hx; subst hx; omega), .inr ⟨g, 0, rfl, fun i hi => by
      obtain rfl : i = 0 := by omega
      simp [World.cell?, hg]⟩⟩
    have EQ := beq_any _ _ _ _ w B1.bts B2.bts
    rw [bytesOf_one _ _ (hB.rg 0) (by omega)] at EQ
    have h1 : (1 : Int) ≤ (n : Int) := by omega
    clear hB B1 B2 hcc
    generalize decide (l.getD 0 0 = c) = R at *
    go_enter Try.func37, Try.ntmps37
    go_wp2_with (go_at_call 12; refine EQ.mono ?_; rintro e w' ⟨rfl, hw⟩; subst hw)
    go_ret
    exact ⟨rfl, rfl⟩

set_option maxHeartbeats 1000000 in
theorem braces_any (b off n cap : Nat) (l : List Int) (w0 w : World) (hB0 : BS w0 (some ⟨b, off, none⟩) n cap l) (hB : BS w (some ⟨b, off, none⟩) n cap l) (h0 : 2 ≤ n) :
    Calls Try.prog 38 #[.slice (some ⟨b, off, none⟩) n cap] w fun e w' => ∃ v, e = .returned v ∧ MkV w0 (mkB l) v ∧ Below w.heap.size w w' := by
  have hl := hB.len
  have hnc := hB.nc
  have hcm := hB.cm
  have hge := ix_ge 125 l
  have hlt := ix_lt 125 l
  have IX := fun o => index_any b off n cap l 125 (by decide) (by decide) (w.alloc o) (hB.below ((Below.refl _ _).alloc (Nat.le_refl _) o))
  have HB : Hid (BS w (some ⟨b, off, none⟩) n cap l) := hB
  clear hB
  unfold mkB
  generalize ix 125 l = E at *
  by_cases hE : E ≤ 2
  · clear hB0
    rw [if_pos hE]
    go_enter Try.func38, Try.ntmps38
    go_wp2_with (go_at_call 46; refine (IX _).mono ?_; rintro e w' ⟨rfl, hw⟩; subst hw)
    refine bodyPost_ret (v := .agg #[.int .i64 0, .slice none 0 0, .int .i64 0]) (by simp [results, Try.results38, go_sem]) rfl ⟨_, rfl, ⟨_, _, _, _, rfl⟩, ?_⟩
    (repeat' first | exact Below.refl _ _ | refine Below.setCell ?_ (by simp) _ | refine Below.alloc ?_ (by simp) _)
  · rw [if_neg hE]
    obtain ⟨m, rfl⟩ : ∃ m : Nat, E = m := ⟨E.toNat, by omega⟩
    have hS : BS w (some ⟨b, off + 2, none⟩) (m - 2) (cap - 2) ((l.drop 2).take (m - 2)) := by
      have := HB.out.sub 2 m (by omega) (by omega)
      rw [if_neg (by omega)] at this
      simpa [Addr.add] using this
    have HS0 : Hid (BS w0 (some ⟨b, off + 2, none⟩) (m - 2) (cap - 2) ((l.drop 2).take (m - 2))) := by
      have := hB0.sub 2 m (by omega) (by omega)
      rw [if_neg (by omega), show Option.map (fun x : Addr => x.add 2) (some ⟨b, off, none⟩) = some ⟨b, off + 2, none⟩ from by simp [Addr.add]] at this
      exact this
    clear hB0
    have hg0 : ((l.drop 2).take (m - 2)).getD 0 0 = l.getD 2 0 := by rw [getD_sub, if_pos (by omega)]
    have hSl : ((l.drop 2).take (m - 2)).length = m - 2 := hS.len
    have HS : Hid (∀ w', Below w.heap.size w w' → BS w' (some ⟨b, off + 2, none⟩) (m - 2) (cap - 2) ((l.drop 2).take (m - 2))) := fun w' hb => hS.below hb
    have NU : Hid (∀ w', Below w.heap.size w w' → Calls Try.prog 47 #[.slice (some ⟨b, off + 2, none⟩) (m - 2) (cap - 2)] w' fun e w'' => e = .returned (.bool (((l.drop 2).take (m - 2)).all dg && decide (m - 2 ≤ 3))) ∧ w'' = w') := fun w' hb => isNumber_any _ _ _ _ w' (hS.below hb)
    have NA : Hid (∀ w', Below w.heap.size w w' → Calls Try.prog 48 #[.slice (some ⟨b, off + 2, none⟩) (m - 2) (cap - 2)] w' fun e w'' => e = .returned (.bool (((l.drop 2).take (m - 2)).all ld && !dg (l.getD 2 0))) ∧ w'' = w') := fun w' hb => by rw [← hg0]; exact isName_any _ _ _ _ w' (hS.below hb) (by omega)
    have hm2 : ¬ cap = 2 := by omega
    have hm3 : ¬ ((m : Int) ≤ 2) := hE
    have hbw : b < w.heap.size := by
      obtain ⟨b', off', e, hc⟩ := HB.out.at_ (by omega)
      cases e
      exact World.block_lt_of_cell? w _ (hc 0 (by omega))
    clear hS hE
    have e0 : ((m : Int)).toNat = m := by omega
    rw [e0]
    have HX : Hid ((((l.drop 2).take (m - 2)).all dg && decide (m - 2 ≤ 3)) = true → (m - 2 ≤ 3) ∧ ∀ x ∈ (l.drop 2).take (m - 2), dg x = true) := fun h => by
      rw [Bool.and_eq_true, List.all_eq_true, decide_eq_true_iff] at h
      exact ⟨h.2, h.1⟩
    generalize (l.drop 2).take (m - 2) = D at *
    generalize (D.all dg && decide (m - 2 ≤ 3)) = X at *
    generalize (D.all ld && !dg (l.getD 2 0)) = Y at *
    cases X with
    | true =>
      obtain ⟨h3, hd⟩ := HX.out rfl
      have HD : Hid (∀ x ∈ D, dg x = true) := hd
      clear HX hd NA
      rw [if_pos rfl]
      go_enter Try.func38, Try.ntmps38
      go_wp2_with (first
        | (go_at_call 46; refine (IX _).mono ?_; rintro e w' ⟨rfl, hw⟩; subst hw)
        | (go_at_call 47; refine (NU.out _ ?bel).mono ?_; (case bel => (repeat' first | exact Below.refl _ _ | refine Below.setCell ?_ (by simp) _ | refine Below.alloc ?_ (by simp) _)); rintro e w' ⟨rfl, hw⟩; subst hw))
      refine bodyPost_ret (v := .agg #[.int .i64 2, .slice (some ⟨b, off + 2, none⟩) (m - 2) (cap - 2), .int .i64 ((m : Int) + 1)]) (by simp [results, Try.results38, go_sem]) rfl ⟨_, rfl, ⟨some ⟨b, off + 2, none⟩, cap - 2, ?_, ?_, ?_, HD.out⟩, ?_⟩
      · rw [hSl]; rfl
      · rw [hSl]; exact HS0.out
      · rw [hSl]; exact h3
      · (repeat' first | exact Below.refl _ _ | refine Below.setCell ?_ (by simp) _ | refine Below.alloc ?_ (by simp) _)
    | false =>
      clear HX
      rw [if_neg (by decide)]
      cases Y with
      | true =>
        rw [if_pos rfl]
        go_enter Try.func38, Try.ntmps38
        go_wp2_with (first
          | (go_at_call 46; refine (IX _).mono ?_; rintro e w' ⟨rfl, hw⟩; subst hw)
          | (go_at_call 47; refine (NU.out _ ?bel).mono ?_; (case bel => (repeat' first | exact Below.refl _ _ | refine Below.setCell ?_ (by simp) _ | refine Below.alloc ?_ (by simp) _)); rintro e w' ⟨rfl, hw⟩; subst hw)
          | (go_at_call 48; refine (NA.out _ ?bel2).mono ?_; (case bel2 => (repeat' first | exact Below.refl _ _ | refine Below.setCell ?_ (by simp) _ | refine Below.alloc ?_ (by simp) _)); rintro e w' ⟨rfl, hw⟩; subst hw))
        refine bodyPost_ret (v := .agg #[.int .i64 3, .slice (some ⟨b, off + 2, none⟩) (m - 2) (cap - 2), .int .i64 ((m : Int) + 1)]) (by simp [results, Try.results38, go_sem]) rfl ⟨_, rfl, ⟨some ⟨b, off + 2, none⟩, cap - 2, ?_, ?_⟩, ?_⟩
        · rw [hSl]; rfl
        · rw [hSl]; exact HS0.out
        · (repeat' first | exact Below.refl _ _ | refine Below.setCell ?_ (by simp) _ | refine Below.alloc ?_ (by simp) _)
      | false =>
        rw [if_neg (by decide)]
        go_enter Try.func38, Try.ntmps38
        go_wp2_with (first
          | (go_at_call 46; refine (IX _).mono ?_; rintro e w' ⟨rfl, hw⟩; subst hw)
          | (go_at_call 47; refine (NU.out _ ?bel).mono ?_; (case bel => (repeat' first | exact Below.refl _ _ | refine Below.setCell ?_ (by simp) _ | refine Below.alloc ?_ (by simp) _)); rintro e w' ⟨rfl, hw⟩; subst hw)
          | (go_at_call 48; refine (NA.out _ ?bel2).mono ?_; (case bel2 => (repeat' first | exact Below.refl _ _ | refine Below.setCell ?_ (by simp) _ | refine Below.alloc ?_ (by simp) _)); rintro e w' ⟨rfl, hw⟩; subst hw))
        refine bodyPost_ret (v := .agg #[.int .i64 0, .slice (some ⟨b, off + 2, none⟩) (m - 2) (cap - 2), .int .i64 ((m : Int) + 1)]) (by simp [results, Try.results38, go_sem]) rfl ⟨_, rfl, ⟨_, _, _, _, rfl⟩, ?_⟩
        (repeat' first | exact Below.refl _ _ | refine Below.setCell ?_ (by simp) _ | refine Below.alloc ?_ (by simp) _)
end Go.Proofs.Ytfnndnlhdfjggaa.edt
