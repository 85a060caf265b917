/- What the document's cut answers of any text: its parts between a byte. -/
import Derived.Test.YtnpnmhjhohhnjaaDoorLinCut
import Derived.WalkSmall
import Derived.Deep.LoopGhost
import Derived.Lib.OthersKept
import Derived.Maps.AppendAt
set_option linter.unusedVariables false
set_option linter.unusedSimpArgs false
namespace Go.Proofs.YtnpnmhjhohhnjaaDoor.lin
open Go.RowKit

theorem infoStr2 : (Tryd.prog.info? 9).map (fun i => (i.zero, i.size, i.bytes)) = some (some (.string ByteArray.empty), 1, 16) := by kernel_rfl
theorem own_slice2 {w : World} {B e size n : Nat} {v : Value} {xs : List Value} (h : w.ownsRow B e size v n xs) : ∃ a c, v = .slice a n c := by
  rcases h.2 with hn | ⟨g, cap, cur, rfl, _⟩
  · obtain ⟨rfl, rfl⟩ := hn; exact ⟨_, _, rfl⟩
  · exact ⟨_, _, rfl⟩

set_option maxHeartbeats 2000000 in
set_option maxRecDepth 100000 in
theorem rcut_any (s : ByteArray) (b : Nat) (w : World) (hs : s.size ≤ 1099511627776) :
    Calls Tryd.prog 30 #[.string s, .int .u8 b] w fun e w' => ∃ v, e = .returned v ∧ w'.ownsRow w.heap.size 9 1 v (cutV s b).length ((cutV s b).map Value.string) ∧ Below w.heap.size w w' := by
  obtain ⟨i0, hi, hz0, hy1, hz2⟩ := info_parts infoStr2
  go_enter Tryd.func30, Tryd.ntmps30
  go_wp2
  go_loopg [5, 6, 7] s.size (fun k v t e wr => ∃ (p st : Nat) (out : List ByteArray), k = s.size - p ∧ t = .int .i64 st ∧ e = .int .i64 p ∧ st ≤ p ∧ p ≤ s.size ∧ out.length ≤ st ∧ wr.ownsRow w.heap.size 9 1 v out.length (out.map Value.string) ∧ Hid (out ++ cuts s b (s.size - p) p st = cutV s b) ∧ Below w.heap.size w wr)
  case atStart => exact ⟨0, 0, [], by omega, rfl, rfl, Nat.zero_le _, Nat.zero_le _, Nat.le_refl _, World.ownsRow_nil _ _ _ _, rfl, Below.refl _ _⟩
  case round =>
    obtain ⟨p, st, out, hgk, rfl, rfl, hst, hp, hol, hown, HSC, hbel⟩ := hrel
    have HGK : Hid (gk = s.size - p) := hgk
    clear hgk
    obtain ⟨sa, sc, rfl⟩ := own_slice2 hown
    have HW : Hid (∀ k, (Value.slice sa out.length sc).ownBlock = some k → w.heap.size ≤ k) := fun k e => (hown.lt _ e).1
    have hs3 := hbel.size
    by_cases hlt : p < s.size
    · have he := at8_eq s p hlt
      by_cases hb : (s[p]'hlt).toNat = b
      · have t1 : ((((s[p]'hlt).toNat : Nat) : Int) == (b : Int)) = true := by simp; omega
        have HS2 : Hid ((out ++ [s.extract st p]) ++ cuts s b (s.size - (p + 1)) (p + 1) (p + 1) = cutV s b) := by
          have := cuts_hit s b (s.size - p) p st (by omega) (by rw [he]; omega)
          rw [show s.size - p - 1 = s.size - (p + 1) from by omega] at this
          rw [Hid, ← HSC.out, this, List.append_assoc]; rfl
        clear HSC he
        generalize hr : (s[p]'hlt).toNat = r at *
        clear hb
        generalize ht : s.extract st p = t at *
        go_wp2_with (at_builtin; refine wpList_append_own _ rfl _ _ 34 rfl w.heap.size 9 i0 (.string ByteArray.empty) 1 16 Tryd.underlying34 hi hz0 hy1 hz2 rfl (by decide) _ _ _ rfl (hown.alloc _) ⟨wr.heap.size, 0, none⟩ 1 1 [.string t] rfl rfl (cell_one_new _ _ _) (by simp [Value.oneCell']) (by unfold maxLen; omega) (by omega) (by simp; omega) ?_)
        intro v' w3 hown4 hgrow _
        have R1 := (hbel.alloc hs3 (.cells #[.string t] 9)).grown hgrow (by simp; omega) HW.out
        have R3 : w3.ownsRow w.heap.size 9 1 v' (out ++ [t]).length ((out ++ [t]).map Value.string) := by
          rw [List.length_append, List.map_append]; exact hown4
        clear hgrow hown hown4
        go_wp2
        go_roundg (s.size - (p + 1))
        case measure => have := HGK.out; omega
        case rel => exact ⟨p + 1, p + 1, out ++ [t], rfl, by go_num, by go_num, Nat.le_refl _, by omega, by simp; omega, R3, HS2, R1⟩
      · have t1 : ((((s[p]'hlt).toNat : Nat) : Int) == (b : Int)) = false := by simp; omega
        have HS2 : Hid (out ++ cuts s b (s.size - (p + 1)) (p + 1) st = cutV s b) := by
          have := cuts_not s b (s.size - p) p st (by omega) (by rw [he]; omega)
          rw [show s.size - p - 1 = s.size - (p + 1) from by omega] at this
          rw [Hid, ← HSC.out, this]
        clear HSC he
        generalize hr : (s[p]'hlt).toNat = r at *
        clear hb
        go_wp2
        go_roundg (s.size - (p + 1))
        case measure => have := HGK.out; omega
        case rel => exact ⟨p + 1, st, out, rfl, rfl, by go_num, by omega, by omega, hol, hown, HS2, hbel⟩
    · obtain rfl : p = s.size := by omega
      have HF : Hid (out ++ [s.extract st s.size] = cutV s b) := by
        rw [Hid, ← HSC.out, Nat.sub_self]; rfl
      clear HSC
      generalize ht : s.extract st s.size = t at *
      go_wp2_with (at_builtin; refine wpList_append_own _ rfl _ _ 34 rfl w.heap.size 9 i0 (.string ByteArray.empty) 1 16 Tryd.underlying34 hi hz0 hy1 hz2 rfl (by decide) _ _ _ rfl (hown.alloc _) ⟨wr.heap.size, 0, none⟩ 1 1 [.string t] rfl rfl (cell_one_new _ _ _) (by simp [Value.oneCell']) (by unfold maxLen; omega) (by omega) (by simp; omega) ?_)
      intro v' w3 hown4 hgrow _
      have R1 := (hbel.alloc hs3 (.cells #[.string t] 9)).grown hgrow (by simp; omega) HW.out
      clear hgrow hown
      go_wp2
      go_ret
      exact ⟨_, rfl, by rw [← HF.out, List.length_append, List.map_append]; exact hown4, R1⟩
end Go.Proofs.YtnpnmhjhohhnjaaDoor.lin
