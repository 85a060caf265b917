/- strings.SplitSeq at the separator of one newline: its closure gives a text's lines, in their order, and stores into the one captured cell alone. -/
import Derived.Test.YtnpnmhjhohhnjaaDoorLinRange
import Derived.Test.YtnpnmhjhohhnjaaDoorLinCut
import Derived.Test.YtnpnmhjhohhnjaaDoorLinShelf
import Derived.Shelf.Abstract
import Derived.Shelf.RegionOpen
import Derived.WalkKit
import Derived.OwnWalkIn
import Derived.TacticsInMore
import Derived.LoopNIn
import Derived.LoopIn
import Derived.Sort.LoopGhostIn
set_option linter.unusedVariables false
set_option linter.unusedSimpArgs false
namespace Go.Proofs.YtnpnmhjhohhnjaaDoor.lin
open Go.RowKit Go.Shelf
attribute [local go_sem] Oper.semAt_some

theorem wide_depth (n : Nat) : Fence.wide.depth.isSome = true → 1 ≤ n := fun h => by simp [Fence.wide] at h

/-- The three captured variables of the closure: the text left, the separator, what is kept of it. -/
structure Caps (W : World) (c : Nat) (s : ByteArray) : Prop where
  text : Boxed W c 9 (.string s)
  sep : Boxed W (c + 1) 9 (.string ⟨#[10]⟩)
  save : Boxed W (c + 2) 3 (.int .i64 0)

theorem Caps.keep {W W' : World} {c hi : Nat} {s : ByteArray} (h : Caps W c s) (hh : c + 3 ≤ hi) (k : Keep c hi W W') : Caps W' c s :=
  ⟨(k c (by omega) (by omega)).trans h.text, (k (c + 1) (by omega) (by omega)).trans h.sep, (k (c + 2) (by omega) (by omega)).trans h.save⟩

theorem SplitSeq_any (s : ByteArray) (w : World) :
    Calls Tryd.prog 57 #[.string s, .string ⟨#[10]⟩] w fun e w' => e = .returned (.func (.func 77) #[] #[.pointer (some ⟨w.heap.size + 1, 0, none⟩), .pointer (some ⟨w.heap.size, 0, none⟩), .pointer (some ⟨w.heap.size + 2, 0, none⟩)]) ∧
      w' = ((w.alloc (.cells #[.string s] 9)).alloc (.cells #[.string ⟨#[10]⟩] 9)).alloc (.cells #[.int .i64 0] 3) := by
  have SP : Calls Tryd.prog 70 #[.string s, .string ⟨#[10]⟩, .int .i64 0] w fun e w' => e = .returned (.func (.func 77) #[] #[.pointer (some ⟨w.heap.size + 1, 0, none⟩), .pointer (some ⟨w.heap.size, 0, none⟩), .pointer (some ⟨w.heap.size + 2, 0, none⟩)]) ∧
      w' = ((w.alloc (.cells #[.string s] 9)).alloc (.cells #[.string ⟨#[10]⟩] 9)).alloc (.cells #[.int .i64 0] 3) := by
    go_enter Tryd.func70, Tryd.ntmps70
    go_wp2
    go_ret
    exact ⟨rfl, rfl⟩
  go_enter Tryd.func57, Tryd.ntmps57
  go_wp2_with (go_at_call 70; refine SP.mono ?_; rintro e w' ⟨rfl, rfl⟩)
  go_ret
  exact ⟨rfl, rfl⟩

set_option maxHeartbeats 1000000 in
theorem split_gives (n c : Nat) (s : ByteArray) (w : World) (hs : s.size ≤ 1099511627776) (hcap : Caps w c s) :
    Gives n Tryd.prog 77 #[.pointer (some ⟨c + 1, 0, none⟩), .pointer (some ⟨c, 0, none⟩), .pointer (some ⟨c + 2, 0, none⟩)] (fun x => #[.string x]) (cutV s 10) c c w.heap.size w := by
  intro l J Jx W hW hJ hY h0
  have hlt := hcap.save.lt
  have hcW : Caps W c s := ⟨(hW.block c (by omega)).trans hcap.text, (hW.block (c + 1) (by omega)).trans hcap.sep, (hW.block (c + 2) hlt).trans hcap.save⟩
  refine callsIn_of_wp Tryd.func77 rfl trivial ?_ rfl
  simp only [Tryd.ntmps77, List.size_toArray, List.length_cons, List.length_nil, Nat.reduceAdd, Nat.reduceSub, Array.replicate_succ, Array.replicate_zero, List.push_toArray, List.append_toArray, List.nil_append, List.cons_append]
  have c1 := hcW.sep.cell
  gi_wp2
  clear c1
  gi_loopg [7] s.size (fun k v wr => ∃ (a : Nat) (pre : List ByteArray), k = s.size - a ∧ a ≤ s.size ∧ Hid (pre ++ cuts s 10 (s.size - a) a a = cutV s 10) ∧ Caps wr c (s.extract a s.size) ∧ J pre wr)
  case atStart => exact ⟨0, [], by omega, Nat.zero_le _, rfl, by rw [show s.extract 0 s.size = s from by simp]; exact hcW, h0⟩
  case round =>
    obtain ⟨a, pre, hgk, ha, HX, hcr, hj⟩ := hrel
    have c0 := hcr.text.cell
    have c1 := hcr.sep.cell
    have c2 := hcr.save.cell
    have IX := Tryd.strings_Index_one (s.extract a s.size) 10 wr
    rcases (show Lib.indexByte (s.extract a s.size).data.toList 10 = -1 ∨ ∃ o : Nat, Lib.indexByte (s.extract a s.size).data.toList 10 = o from by
      have := Lib.indexByte_ge (s.extract a s.size).data.toList 10
      rcases (show Lib.indexByte (s.extract a s.size).data.toList 10 = -1 ∨ 0 ≤ Lib.indexByte (s.extract a s.size).data.toList 10 from by omega) with h | h
      · exact .inl h
      · exact .inr ⟨_, (Int.toNat_of_nonneg h).symm⟩) with hi | ⟨o, hi⟩
    · have hr := rest_none s a ha hi
      rw [hi] at IX
      have HX2 : cutV s 10 = pre ++ [s.extract a s.size] := by rw [← HX.out, hr]
      obtain ⟨fn, tmps, assign, body, hy, hR⟩ := hY pre (s.extract a s.size) [] wr HX2 hj
      clear HX hr hi
      have HX3 : Hid (cutV s 10 = pre ++ [s.extract a s.size]) := HX2
      clear HX2
      generalize s.extract a s.size = R at *
      gi_wp2
      refine ⟨trivial, wide_depth _, (callsIn_wide.2 IX).mono ?_⟩
      rintro e w' ⟨rfl, rfl⟩
      gi_wp2
      refine ⟨wide_depth _, hR.mono ?_⟩
      rintro e W3 (⟨rfl, hJ3, hk3⟩ | ⟨rfl, hJx3⟩)
      · gi_wp2
        go_end0
        exact ⟨⟨_, rfl⟩, .inl (by rw [HX3.out]; exact hJ3)⟩
      · gi_wp2
        go_end0
        exact ⟨⟨_, rfl⟩, .inr ⟨_, hJx3⟩⟩
    · obtain ⟨hao, hr⟩ := rest_some s a o ha hi
      rw [hi] at IX
      have HX2 : cutV s 10 = pre ++ s.extract a (a + o) :: cuts s 10 (s.size - (a + o + 1)) (a + o + 1) (a + o + 1) := by rw [← HX.out, hr]
      obtain ⟨fn, tmps, assign, body, hy, hR⟩ := hY pre (s.extract a (a + o)) _ wr HX2 hj
      clear HX hr hi
      have HX3 : Hid (cutV s 10 = pre ++ s.extract a (a + o) :: cuts s 10 (s.size - (a + o + 1)) (a + o + 1) (a + o + 1)) := HX2
      clear HX2
      have e1 := ext_first s a o (by omega)
      have e2 := ext_last s a (o + 1) ha
      have hz : (s.extract a s.size).size = s.size - a := by rw [ByteArray.size_extract]; omega
      generalize s.extract a s.size = R at *
      generalize s.extract a (a + o) = X at *
      gi_wp2
      refine ⟨trivial, wide_depth _, (callsIn_wide.2 IX).mono ?_⟩
      rintro e w' ⟨rfl, rfl⟩
      gi_wp2
      refine ⟨wide_depth _, hR.mono ?_⟩
      rintro e W3 (⟨rfl, hJ3, hk3⟩ | ⟨rfl, hJx3⟩)
      · have hc3 := hcr.keep hlt hk3
        have d0 := hc3.text.cell
        have d1 := hc3.sep.cell
        have d2 := hc3.save.cell
        have f0 := hc3.text.frozen
        gi_wp2
        gi_roundg (s.size - (a + (o + 1)))
        case measure => omega
        case rel => exact ⟨a + (o + 1), pre ++ [X], rfl, by omega, by rw [HX3.out]; simp [Hid, Nat.add_assoc], ⟨by rw [← e2, hz]; exact hc3.text.set _, hc3.sep.other (by omega) _, hc3.save.other (by omega) _⟩, hJ _ _ _ hJ3 (grownBy_setCell' _ _ _)⟩
      · gi_wp2
        refine bodyPost_ret (results_none rfl _ _ _) rfl ?_
        exact ⟨⟨_, rfl⟩, .inr ⟨_, hJx3⟩⟩
end Go.Proofs.YtnpnmhjhohhnjaaDoor.lin
