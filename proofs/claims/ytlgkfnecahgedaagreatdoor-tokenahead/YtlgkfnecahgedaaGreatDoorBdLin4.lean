/- Texts that the proof leans on, one behind the other. -/
import Derived.Test.YtlgkfnecahgedaaGreatDoorBdLin3

section
/- What the document's Rows answers of any text: the same as lines.Rows. -/
set_option linter.unusedVariables false
set_option linter.unusedSimpArgs false
namespace Go.Proofs.YtlgkfnecahgedaaGreatDoor.lin
open Go.RowKit

set_option maxHeartbeats 4000000 in
set_option maxRecDepth 100000 in
theorem rrows_any (s : ByteArray) (w : World) (hs : s.size ≤ 1073741824) :
    Calls Tryz.prog 146 #[.string s] w fun e w' => ∃ v, e = .returned v ∧ RowsAt w' w.heap.size v (rowsOf (cutV s 10)) ∧ Below w.heap.size w w' := by
  obtain ⟨i0, hi, hz0, hy1, hz2⟩ := info_parts infoStrs
  have RC := rcut_any s 10 w (by omega)
  go_enter Tryz.func146, Tryz.ntmps146
  go_wp2_with fail
  refine RC.mono ?_
  rintro e w1 ⟨v, rfl, hown, b1⟩
  obtain ⟨a, c, rfl, hrow⟩ := strRow hown
  have hpos : 0 < (cutV s ((10 : Nat) : Int)).length := (cutV_head s 10).2
  obtain ⟨g, rfl, _, hg, _, _, _, hcell⟩ := hrow hpos
  have HC : Hid (∀ (i : Nat) (x : ByteArray), (cutV s 10)[i]? = some x → w1.cell? ⟨g, i, none⟩ = some (.string x)) := hcell
  have HN : Hid (∀ i, i < (cutV s 10).length → ∃ x, (cutV s 10)[i]? = some x ∧ (cutV s 10).take (i + 1) = (cutV s 10).take i ++ [x]) := fun i h => ⟨_, List.getElem?_eq_getElem h, by rw [List.take_add_one, List.getElem?_eq_getElem h]; rfl⟩
  have HSZ : Hid (∀ x ∈ cutV s 10, x.size ≤ s.size) := fun x hx => cuts_size _ _ _ _ _ x hx
  have hcl := cutV_len2 s 10
  have e10 : cutV s ((10 : Nat) : Int) = cutV s 10 := rfl
  rw [e10]
  clear e10 hrow hcell hpos hown RC
  generalize hcs : cutV s 10 = cs at *
  have HCS : Hid (cutV s 10 = cs) := hcs
  clear hcs
  go_wp2
  go_loopw [3, 10] (fun v i wr => ∃ k : Nat, k ≤ cs.length ∧ i = .int .i64 k ∧ Hid (RowsAt wr w1.heap.size v (rowsOf (cs.take k))) ∧ Below w1.heap.size w1 wr) (fun _ i _ => cs.length - (RowKit.intOf i).toNat)
  case atStart => exact ⟨0, Nat.zero_le _, rfl, RowsAt.nil _ _, Below.refl _ _⟩
  case round =>
    obtain ⟨k, hk, rfl, HR, hbel⟩ := hrel
    by_cases hlt : k < cs.length
    · obtain ⟨x, hx, htk⟩ := HN.out k hlt
      have hlt' : (k : Int) < (cs.length : Int) := by omega
      have cx : wr.cell? ⟨g, k, none⟩ = some (.string x) := (hbel.cell (p := ⟨g, k, none⟩) hg).trans (HC.out k x hx)
      have hxs := HSZ.out x (List.mem_of_getElem? hx)
      have RF := rfields_any x wr (by omega)
      have hlk : (cs.take k).length = k := by rw [List.length_take]; omega
      have hrl := rowsOf_len (cs.take k)
      rw [hlk] at hrl
      have HLR : Hid (rowsOf (cs.take (k + 1)) = rowsOf (cs.take k) ++ rowOf x) := by rw [Hid, htk, rowsOf_snoc]
      have hbs := hbel.size
      clear htk hx hlk
      go_wp2_with fail
      refine RF.mono ?_
      rintro e w2 ⟨fv, rfl, hown, b2⟩
      clear RF cx
      have b12 := hbel.trans (b2.mono hbs)
      have hs2 := b2.size
      have HR2 : Hid (RowsAt w2 w1.heap.size u3 (rowsOf (cs.take k))) := HR.out.kept b2
      cases hfs : fieldsV x with
      | nil =>
        rw [hfs] at hown
        obtain ⟨sa, sc, rfl⟩ := own_slice hown
        have R2 : Hid (RowsAt w2 w1.heap.size u3 (rowsOf (cs.take (k + 1)))) := by
          rw [Hid, HLR.out, show rowOf x = [] from by unfold rowOf; rw [hfs]; rfl, List.append_nil]; exact HR2.out
        clear hown HR HR2
        go_wp2
        go_roundw
        case rel => exact ⟨k + 1, by omega, by go_num, R2, b12⟩
        case measure => simp [RowKit.intOf]; omega
      | cons f fs =>
        rw [hfs] at hown
        have hF : FAt w2 w1.heap.size fv (f :: fs) := by
          obtain ⟨fa, fc, rfl, hfrow⟩ := strRow hown
          obtain ⟨g2, rfl, hg1, hg2, hfc1, hfc2, ⟨cur, hcur, hcc⟩, hfcell⟩ := hfrow (by simp)
          exact ⟨g2, 0, fc, cur, rfl, by omega, hcur, fun j hj => by
            rw [Nat.zero_add, hcc j _ (List.getElem?_eq_getElem hj), List.getD_eq_getElem?_getD, List.getElem?_eq_getElem hj]; rfl⟩
        obtain ⟨L, hL, ho, hf⟩ := HR2.out
        have hLl : L.length ≤ k := by
          have := congrArg List.length hL
          rw [List.length_map] at this
          omega
        have HW : Hid (∀ j, u3.ownBlock = some j → w1.heap.size ≤ j) := fun j e => (ho.lt _ e).1
        have HF : Hid (FAt w2 w1.heap.size fv (f :: fs)) := hF
        have HFF : Hid (∀ q ∈ L, FAt w2 w1.heap.size q.1 q.2) := hf
        have HL : Hid (L.map (·.2) = rowsOf (cs.take k)) := hL
        have HO : Hid (w2.ownsRow w1.heap.size 82 1 u3 L.length (L.map (·.1))) := ho
        have HRX : Hid (rowOf x = [f :: fs]) := by unfold Hid rowOf; rw [hfs]; rfl
        obtain ⟨ua, uc, rfl⟩ := own_slice ho
        obtain ⟨fg, fo, fc', fcur, rfl, _⟩ := hF
        have t0 : (0 : Int) < (fs.length : Int) + 1 := by omega
        clear hown HR HR2 hL ho hf hrl hfs
        go_wp2_with (at_builtin; refine wpList_append_own _ rfl _ _ 170 rfl w1.heap.size 82 i0 (.slice none 0 0) 1 24 Tryz.underlying170 hi hz0 hy1 hz2 rfl (by decide) _ _ _ rfl (HO.out.alloc _) ⟨w2.heap.size, 0, none⟩ 1 1 [.slice (some ⟨fg, fo, none⟩) (fs.length + 1) fc'] rfl rfl (cell_one_new _ _ _) (by simp [Value.oneCell']) (by unfold maxLen; omega) (by omega) (by simp; omega) ?_)
        intro v' w4 hown4 hgrow _
        have al : ∀ x, Below w2.heap.size w2 (w2.alloc x) := fun x => (Below.refl _ w2).alloc (Nat.le_refl _) _
        have R2 : Hid (RowsAt w4 w1.heap.size v' (rowsOf (cs.take (k + 1)))) := by
          rw [Hid, HLR.out, HRX.out, ← HL.out]
          exact RowsAt.push (fun q hq => (HFF.out q hq).kept (al _)) (HO.out.alloc _) (HF.out.kept (al _)) hgrow hown4
        have R3 : Below w1.heap.size w1 w4 := (b12.alloc b12.size _).grown hgrow (by simp; omega) HW.out
        clear hown4 hgrow HO HFF HF HLR HRX HL al
        go_wp2
        go_roundw
        case rel => exact ⟨k + 1, by omega, by go_num, R2, R3⟩
        case measure => simp [RowKit.intOf]; omega
    · obtain rfl : k = cs.length := by omega
      rw [List.take_length] at HR
      have b3 := b1.trans (hbel.mono b1.size)
      have HRL : Hid (RowsAt wr w.heap.size u3 (rowsOf cs)) := HR.out.lower b1.size
      go_wp2
      go_ret
      exact ⟨u3, rfl, by rw [HCS.out]; exact HRL.out, b3⟩
end Go.Proofs.YtlgkfnecahgedaaGreatDoor.lin
end
