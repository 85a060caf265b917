/- What the document's fields answers of any line: the same as lines.fieldsOf. -/
import Derived.Test.YtnpnmhjhohhnjaaDoorLinRefTrim
import Derived.Test.YtnpnmhjhohhnjaaDoorLinRefCut
set_option linter.unusedVariables false
set_option linter.unusedSimpArgs false
namespace Go.Proofs.YtnpnmhjhohhnjaaDoor.lin
open Go.RowKit

/-- A row of strings: the slice, and each string where it lies. -/
theorem strRow {w : World} {base : Nat} {v : Value} {xs : List ByteArray} (h : w.ownsRow base 9 1 v xs.length (xs.map Value.string)) :
    ∃ a c, v = .slice a xs.length c ∧ (0 < xs.length → ∃ g, a = some ⟨g, 0, none⟩ ∧ base ≤ g ∧ g < w.heap.size ∧ xs.length ≤ c ∧ c ≤ maxLen ∧ (∃ cur : Array Value, w.heap[g]? = some (.cells cur 9 (0, 0)) ∧ ∀ (i : Nat) (x : ByteArray), xs[i]? = some x → cur[i]? = some (Value.string x)) ∧ ∀ (i : Nat) (x : ByteArray), xs[i]? = some x → w.cell? ⟨g, i, none⟩ = some (.string x)) := by
  rcases h.2 with hn | ⟨g, cap, cur, rfl, hg, hgg, h3, h4, h5, h6⟩
  · obtain ⟨rfl, h0⟩ := hn
    rw [h0]
    exact ⟨_, _, rfl, fun h => by omega⟩
  · have hc : ∀ (i : Nat) (x : ByteArray), xs[i]? = some x → cur[i]? = some (Value.string x) := by
      intro i x hx
      have hi : i < xs.length * 1 := by have := (List.getElem?_eq_some_iff.1 hx).1; omega
      rw [← Array.getElem?_toList, ← List.getElem?_take_of_lt hi, h6, List.getElem?_map, hx]
      rfl
    exact ⟨_, _, rfl, fun _ => ⟨g, rfl, hg, (Array.getElem?_eq_some_iff.1 hgg).1, h3, h4, ⟨cur, hgg, hc⟩, fun i x hx => by rw [cell_of_row w g i cur _ _ hgg]; exact hc i x hx⟩⟩
theorem own_lower {w : World} {B B2 e size n : Nat} {v : Value} {xs : List Value} (h : w.ownsRow B2 e size v n xs) (hb : B ≤ B2) : w.ownsRow B e size v n xs := by
  refine ⟨h.1, ?_⟩
  rcases h.2 with hn | ⟨g, cap, cur, rfl, hg, rest⟩
  · exact .inl hn
  · exact .inr ⟨g, cap, cur, rfl, by omega, rest⟩

theorem cutV_len2 (s : ByteArray) (b : Int) : (cutV s b).length ≤ s.size + 1 := cuts_len s b s.size 0 0
theorem cutV_head (s : ByteArray) (b : UInt8) : (cutV s (b.toNat : Int))[0]? = some (BA (s.data.toList.takeWhile (· ≠ b))) ∧ 0 < (cutV s (b.toNat : Int)).length := by
  rw [cutV_list, ← cutL_head]
  cases hc : cutL b s.data.toList with
  | nil => exact absurd hc (cutL_ne _ _)
  | cons x t => exact ⟨rfl, by simp⟩
theorem fieldsV_ref (s : ByteArray) : fieldsV s = if trim (BA (s.data.toList.takeWhile (· ≠ 35))) = BA [] then [] else (cutV (trim (BA (s.data.toList.takeWhile (· ≠ 35)))) 59).map trim := by
  have h59 := cutV_list (trim (BA (s.data.toList.takeWhile (· ≠ 35)))) 59
  rw [fieldsV_list, fieldsL_ref]
  rw [trim_BA] at h59 ⊢
  rw [BA_data] at h59
  have h59' : cutV (BA (trimL (s.data.toList.takeWhile (· ≠ 35)))) 59 = (cutL 59 (trimL (s.data.toList.takeWhile (· ≠ 35)))).map BA := h59
  rw [h59']
  generalize trimL (s.data.toList.takeWhile (· ≠ 35)) = t
  by_cases ht : t = []
  · rw [if_pos ht, if_pos (by rw [ht])]; rfl
  · rw [if_neg ht, if_neg (fun e => ht (by have := congrArg (fun x : ByteArray => x.data.toList) e; exact this)), List.map_map, List.map_map]
    rfl

set_option maxHeartbeats 2000000 in
set_option maxRecDepth 100000 in
theorem rfields_any (s : ByteArray) (w : World) (hs : s.size ≤ 1073741824) :
    Calls Tryd.prog 31 #[.string s] w fun e w' => ∃ v, e = .returned v ∧ w'.ownsRow w.heap.size 9 1 v (fieldsV s).length ((fieldsV s).map Value.string) ∧ Below w.heap.size w w' := by
  obtain ⟨i0, hi, hz0, hy1, hz2⟩ := info_parts infoStr2
  have HF : Hid (fieldsV s = if trim (BA (s.data.toList.takeWhile (· ≠ 35))) = BA [] then [] else (cutV (trim (BA (s.data.toList.takeWhile (· ≠ 35)))) 59).map trim) := fieldsV_ref s
  have RC := rcut_any s 35 w (by omega)
  have hch := cutV_head s 35
  have hh2 : (BA (s.data.toList.takeWhile (· ≠ 35))).size ≤ s.size := by
    rw [BA_size, ← size_list]; exact (List.takeWhile_prefix _).length_le
  go_enter Tryd.func31, Tryd.ntmps31
  go_wp2_with fail
  refine RC.mono ?_
  rintro e w1 ⟨v, rfl, hown, b1⟩
  obtain ⟨a, c, rfl, hrow⟩ := strRow hown
  have hlen : 0 < (cutV s (35 : Int)).length := hch.2
  obtain ⟨g, rfl, _, hg, _, _, _, hcell⟩ := hrow hlen
  have c0 := hcell 0 _ hch.1
  clear hcell hrow hown hch RC
  generalize hh : BA (s.data.toList.takeWhile (· ≠ 35)) = h at *
  clear hh
  generalize hL : (cutV s ((35 : Nat) : Int)).length = L at *
  have TR := rtrim_any h w1 (by omega)
  have hts := trim_size h
  generalize htt : trim h = t at *
  clear htt
  go_wp2_with fail
  refine TR.mono ?_
  rintro e w1' ⟨rfl, hw1⟩
  subst hw1
  clear TR c0
  by_cases hz : t.size = 0
  · have z2 : t.toList.isEmpty = true := isEmpty_of hz
    have HE : Hid (fieldsV s = []) := by
      rw [Hid, HF.out, if_pos]
      have hl : t.data.toList = [] := List.eq_nil_of_length_eq_zero (by rw [size_list]; exact hz)
      rw [← BA_list t, hl]
    go_wp2
    go_ret
    exact ⟨_, rfl, by rw [HE.out]; exact World.ownsRow_nil _ _ _ _, b1⟩
  · have z2 : t.toList.isEmpty = false := isEmpty_not hz
    have HE : Hid (fieldsV s = (cutV t 59).map trim) := by
      rw [Hid, HF.out, if_neg]
      intro e
      rw [e] at hz
      exact hz rfl
    have RC := rcut_any t 59 w1' (by omega)
    clear HF
    go_wp2_with fail
    refine RC.mono ?_
    rintro e w2 ⟨v, rfl, hown, b2⟩
    have b12 := b1.trans (b2.mono b1.size)
    obtain ⟨a, c2, rfl, hrow⟩ := strRow hown
    clear RC hown
    have hpos : 0 < (cutV t ((59 : Nat) : Int)).length := (cutV_head t 59).2
    obtain ⟨g2, rfl, _, hg2, _, _, _, hcell⟩ := hrow hpos
    have HC : Hid (∀ i x, (cutV t 59)[i]? = some x → w2.cell? ⟨g2, i, none⟩ = some (.string x)) := hcell
    have HN : Hid (∀ i, i < (cutV t 59).length → ∃ x, (cutV t 59)[i]? = some x ∧ (cutV t 59).take (i + 1) = (cutV t 59).take i ++ [x]) := fun i h => ⟨_, List.getElem?_eq_getElem h, by rw [List.take_add_one, List.getElem?_eq_getElem h]; rfl⟩
    have HSZ : Hid (∀ x ∈ cutV t 59, x.size ≤ t.size) := fun x hx => cuts_size _ _ _ _ _ x hx
    have hcl := cutV_len2 t 59
    clear hrow hcell hpos
    have e59 : cutV t ((59 : Nat) : Int) = cutV t 59 := rfl
    rw [e59]
    clear e59
    generalize cutV t 59 = cs at *
    go_wp2
    go_loopw [3, 16] (fun v i wr => ∃ k : Nat, k ≤ cs.length ∧ i = .int .i64 k ∧ wr.ownsRow w2.heap.size 9 1 v ((cs.take k).map trim).length (((cs.take k).map trim).map Value.string) ∧ Below w2.heap.size w2 wr) (fun _ i _ => cs.length - (RowKit.intOf i).toNat)
    case atStart => exact ⟨0, Nat.zero_le _, rfl, World.ownsRow_nil _ _ _ _, Below.refl _ _⟩
    case round =>
      obtain ⟨k, hk, rfl, hown, hbel⟩ := hrel
      by_cases hlt : k < cs.length
      · obtain ⟨x, hx, htk⟩ := HN.out k hlt
        have hlt' : (k : Int) < (cs.length : Int) := by omega
        have cx : wr.cell? ⟨g2, k, none⟩ = some (.string x) := (hbel.cell (p := ⟨g2, k, none⟩) hg2).trans (HC.out k x hx)
        have hxs := HSZ.out x (List.mem_of_getElem? hx)
        have HTK : Hid ((cs.take (k + 1)).map trim = (cs.take k).map trim ++ [trim x]) := by rw [Hid, htk, List.map_append]; rfl
        have hlk : ((cs.take k).map trim).length = k := by simp; omega
        have HW : Hid (∀ j, u3.ownBlock = some j → w2.heap.size ≤ j) := fun j e => (hown.lt _ e).1
        have TX := rtrim_any x wr (by omega)
        obtain ⟨sa, sc, rfl⟩ := own_slice2 hown
        generalize (cs.take k).map trim = D at *
        generalize trim x = tx at *
        subst hlk
        clear htk hx
        have hbs := hbel.size
        go_wp2_with fail
        refine TX.mono ?_
        rintro e wr' ⟨rfl, hwr⟩
        subst hwr
        clear TX
        go_wp2_with (at_builtin; refine wpList_append_own _ rfl _ _ 34 rfl w2.heap.size 9 i0 (.string ByteArray.empty) 1 16 Tryd.underlying34 hi hz0 hy1 hz2 rfl (by decide) _ _ _ rfl (hown.alloc _) ⟨wr'.heap.size, 0, none⟩ 1 1 [.string tx] rfl rfl (cell_one_new _ _ _) (by simp [Value.oneCell']) (by unfold maxLen; omega) (by omega) (by simp; omega) ?_)
        intro v' w3 hown4 hgrow _
        have R1 := (hbel.alloc hbs (.cells #[.string tx] 9)).grown hgrow (by simp; omega) HW.out
        have R3 : w3.ownsRow w2.heap.size 9 1 v' ((cs.take (D.length + 1)).map trim).length (((cs.take (D.length + 1)).map trim).map Value.string) := by
          rw [HTK.out, List.length_append, List.map_append]; exact hown4
        clear hgrow hown hown4 HTK hbel
        go_wp2
        go_roundw
        case rel => exact ⟨D.length + 1, by omega, by go_num, R3, R1⟩
        case measure => simp [RowKit.intOf]; omega
      · obtain rfl : k = cs.length := by omega
        rw [List.take_length] at hown
        have b3 := b12.trans (hbel.mono b12.size)
        go_wp2
        go_ret
        exact ⟨_, rfl, by rw [HE.out]; exact own_lower hown b12.size, b3⟩
end Go.Proofs.YtnpnmhjhohhnjaaDoor.lin
