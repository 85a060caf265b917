/- Texts that the proof leans on, one behind the other. -/
import Derived.Test.YtlidgjkipbijlaaGreatDoorBdLin4
import Derived.Deep.QuietTactic
import Derived.BigQuiet
import Derived.Test.YtlidgjkipbijlaaGreatDoorBdLin3

section
/- What the document's fields answers of any line: the same as lines.fieldsOf. -/
set_option linter.unusedVariables false
set_option linter.unusedSimpArgs false
namespace Go.Proofs.YtlidgjkipbijlaaGreatDoor.lin
open Go.RowKit

/-- A row of strings: the slice, and each string where it lies. -/
theorem strRow {w : World} {base : Nat} {v : Value} {xs : List ByteArray} (h : w.ownsRow base 9 1 v xs.length (xs.map Value.string)) :
    ∃ a c, v = .slice a xs.length c ∧ (0 < xs.length → ∃ g, a = some ⟨g, 0, none⟩ ∧ base ≤ g ∧ g < w.heap.size ∧ xs.length ≤ c ∧ c ≤ maxLen ∧ (∃ cur : Array Value, w.heap[g]? = some (.cells cur 9 (0, 0)) ∧ ∀ (i : Nat) (x : ByteArray), xs[i]? = some x → cur[i]? = some (Value.string x)) ∧ ∀ (i : Nat) (x : ByteArray), xs[i]? = some x → w.cell? ⟨g, i, none⟩ = some (.string x)) := by
  rcases h.2 with hn | ⟨g, cap, cur, rfl, hg, hgg, h3, h4, h5, h6⟩
  · obtain ⟨rfl, h0⟩ := hn
    rw [h0]
    exact ⟨_, _, rfl, fun h => by omega⟩
  · have hc : ∀ (i : Nat) (x : ByteArray), xs[i]? = some x → cur[i]? = some (Value.string x) := by
      intro i x hx
      have hi : i < xs.length * 1 := by have := (List.getElem?_eq_some_iff.1 hx).1; omega
      rw [← Array.getElem?_toList, ← List.getElem?_take_of_lt hi, h6, List.getElem?_map, hx]
      rfl
    exact ⟨_, _, rfl, fun _ => ⟨g, rfl, hg, (Array.getElem?_eq_some_iff.1 hgg).1, h3, h4, ⟨cur, hgg, hc⟩, fun i x hx => by rw [cell_of_row w g i cur _ _ hgg]; exact hc i x hx⟩⟩
theorem own_lower {w : World} {B B2 e size n : Nat} {v : Value} {xs : List Value} (h : w.ownsRow B2 e size v n xs) (hb : B ≤ B2) : w.ownsRow B e size v n xs := by
  refine ⟨h.1, ?_⟩
  rcases h.2 with hn | ⟨g, cap, cur, rfl, hg, rest⟩
  · exact .inl hn
  · exact .inr ⟨g, cap, cur, rfl, by omega, rest⟩

theorem cutV_len2 (s : ByteArray) (b : Int) : (cutV s b).length ≤ s.size + 1 := cuts_len s b s.size 0 0
theorem cutV_head (s : ByteArray) (b : UInt8) : (cutV s (b.toNat : Int))[0]? = some (BA (s.data.toList.takeWhile (· ≠ b))) ∧ 0 < (cutV s (b.toNat : Int)).length := by
  rw [cutV_list, ← cutL_head]
  cases hc : cutL b s.data.toList with
  | nil => exact absurd hc (cutL_ne _ _)
  | cons x t => exact ⟨rfl, by simp⟩
theorem fieldsV_ref (s : ByteArray) : fieldsV s = if trim (BA (s.data.toList.takeWhile (· ≠ 35))) = BA [] then [] else (cutV (trim (BA (s.data.toList.takeWhile (· ≠ 35)))) 59).map trim := by
  have h59 := cutV_list (trim (BA (s.data.toList.takeWhile (· ≠ 35)))) 59
  rw [fieldsV_list, fieldsL_ref]
  rw [trim_BA] at h59 ⊢
  rw [BA_data] at h59
  have h59' : cutV (BA (trimL (s.data.toList.takeWhile (· ≠ 35)))) 59 = (cutL 59 (trimL (s.data.toList.takeWhile (· ≠ 35)))).map BA := h59
  rw [h59']
  generalize trimL (s.data.toList.takeWhile (· ≠ 35)) = t
  by_cases ht : t = []
  · rw [if_pos ht, if_pos (by rw [ht])]; rfl
  · rw [if_neg ht, if_neg (fun e => ht (by have := congrArg (fun x : ByteArray => x.data.toList) e; exact this)), List.map_map, List.map_map]
    rfl

set_option maxHeartbeats 2000000 in
set_option maxRecDepth 100000 in
theorem rfields_any (s : ByteArray) (w : World) (hs : s.size ≤ 1073741824) :
    Calls Tryz.prog 82 #[.string s] w fun e w' => ∃ v, e = .returned v ∧ w'.ownsRow w.heap.size 9 1 v (fieldsV s).length ((fieldsV s).map Value.string) ∧ Below w.heap.size w w' := by
  obtain ⟨i0, hi, hz0, hy1, hz2⟩ := info_parts infoStr2
  have HF : Hid (fieldsV s = if trim (BA (s.data.toList.takeWhile (· ≠ 35))) = BA [] then [] else (cutV (trim (BA (s.data.toList.takeWhile (· ≠ 35)))) 59).map trim) := fieldsV_ref s
  have RC := rcut_any s 35 w (by omega)
  have hch := cutV_head s 35
  have hh2 : (BA (s.data.toList.takeWhile (· ≠ 35))).size ≤ s.size := by
    rw [BA_size, ← size_list]; exact (List.takeWhile_prefix _).length_le
  go_enter Tryz.func82, Tryz.ntmps82
  go_wp2_with fail
  refine RC.mono ?_
  rintro e w1 ⟨v, rfl, hown, b1⟩
  obtain ⟨a, c, rfl, hrow⟩ := strRow hown
  have hlen : 0 < (cutV s (35 : Int)).length := hch.2
  obtain ⟨g, rfl, _, hg, _, _, _, hcell⟩ := hrow hlen
  have c0 := hcell 0 _ hch.1
  clear hcell hrow hown hch RC
  generalize hh : BA (s.data.toList.takeWhile (· ≠ 35)) = h at *
  clear hh
  generalize hL : (cutV s ((35 : Nat) : Int)).length = L at *
  have TR := rtrim_any h w1 (by omega)
  have hts := trim_size h
  generalize htt : trim h = t at *
  clear htt
  go_wp2_with fail
  refine TR.mono ?_
  rintro e w1' ⟨rfl, hw1⟩
  subst hw1
  clear TR c0
  by_cases hz : t.size = 0
  · have z2 : t.toList.isEmpty = true := isEmpty_of hz
    have HE : Hid (fieldsV s = []) := by
      rw [Hid, HF.out, if_pos]
      have hl : t.data.toList = [] := List.eq_nil_of_length_eq_zero (by rw [size_list]; exact hz)
      rw [← BA_list t, hl]
    go_wp2
    go_ret
    exact ⟨_, rfl, by rw [HE.out]; exact World.ownsRow_nil _ _ _ _, b1⟩
  · have z2 : t.toList.isEmpty = false := isEmpty_not hz
    have HE : Hid (fieldsV s = (cutV t 59).map trim) := by
      rw [Hid, HF.out, if_neg]
      intro e
      rw [e] at hz
      exact hz rfl
    have RC := rcut_any t 59 w1' (by omega)
    clear HF
    go_wp2_with fail
    refine RC.mono ?_
    rintro e w2 ⟨v, rfl, hown, b2⟩
    have b12 := b1.trans (b2.mono b1.size)
    obtain ⟨a, c2, rfl, hrow⟩ := strRow hown
    clear RC hown
    have hpos : 0 < (cutV t ((59 : Nat) : Int)).length := (cutV_head t 59).2
    obtain ⟨g2, rfl, _, hg2, _, _, _, hcell⟩ := hrow hpos
    have HC : Hid (∀ i x, (cutV t 59)[i]? = some x → w2.cell? ⟨g2, i, none⟩ = some (.string x)) := hcell
    have HN : Hid (∀ i, i < (cutV t 59).length → ∃ x, (cutV t 59)[i]? = some x ∧ (cutV t 59).take (i + 1) = (cutV t 59).take i ++ [x]) := fun i h => ⟨_, List.getElem?_eq_getElem h, by rw [List.take_add_one, List.getElem?_eq_getElem h]; rfl⟩
    have HSZ : Hid (∀ x ∈ cutV t 59, x.size ≤ t.size) := fun x hx => cuts_size _ _ _ _ _ x hx
    have hcl := cutV_len2 t 59
    clear hrow hcell hpos
    have e59 : cutV t ((59 : Nat) : Int) = cutV t 59 := rfl
    rw [e59]
    clear e59
    generalize cutV t 59 = cs at *
    go_wp2
    go_loopw [3, 16] (fun v i wr => ∃ k : Nat, k ≤ cs.length ∧ i = .int .i64 k ∧ wr.ownsRow w2.heap.size 9 1 v ((cs.take k).map trim).length (((cs.take k).map trim).map Value.string) ∧ Below w2.heap.size w2 wr) (fun _ i _ => cs.length - (RowKit.intOf i).toNat)
    case atStart => exact ⟨0, Nat.zero_le _, rfl, World.ownsRow_nil _ _ _ _, Below.refl _ _⟩
    case round =>
      obtain ⟨k, hk, rfl, hown, hbel⟩ := hrel
      by_cases hlt : k < cs.length
      · obtain ⟨x, hx, htk⟩ := HN.out k hlt
        have hlt' : (k : Int) < (cs.length : Int) := by omega
        have cx : wr.cell? ⟨g2, k, none⟩ = some (.string x) := (hbel.cell (p := ⟨g2, k, none⟩) hg2).trans (HC.out k x hx)
        have hxs := HSZ.out x (List.mem_of_getElem? hx)
        have HTK : Hid ((cs.take (k + 1)).map trim = (cs.take k).map trim ++ [trim x]) := by rw [Hid, htk, List.map_append]; rfl
        have hlk : ((cs.take k).map trim).length = k := by simp; omega
        have HW : Hid (∀ j, u3.ownBlock = some j → w2.heap.size ≤ j) := fun j e => (hown.lt _ e).1
        have TX := rtrim_any x wr (by omega)
        obtain ⟨sa, sc, rfl⟩ := own_slice2 hown
        generalize (cs.take k).map trim = D at *
        generalize trim x = tx at *
        subst hlk
        clear htk hx
        have hbs := hbel.size
        go_wp2_with fail
        refine TX.mono ?_
        rintro e wr' ⟨rfl, hwr⟩
        subst hwr
        clear TX
        go_wp2_with (at_builtin; refine wpList_append_own _ rfl _ _ 80 rfl w2.heap.size 9 i0 (.string ByteArray.empty) 1 16 Tryz.underlying80 hi hz0 hy1 hz2 rfl (by decide) _ _ _ rfl (hown.alloc _) ⟨wr'.heap.size, 0, none⟩ 1 1 [.string tx] rfl rfl (cell_one_new _ _ _) (by simp [Value.oneCell']) (by unfold maxLen; omega) (by omega) (by simp; omega) ?_)
        intro v' w3 hown4 hgrow _
        have R1 := (hbel.alloc hbs (.cells #[.string tx] 9)).grown hgrow (by simp; omega) HW.out
        have R3 : w3.ownsRow w2.heap.size 9 1 v' ((cs.take (D.length + 1)).map trim).length (((cs.take (D.length + 1)).map trim).map Value.string) := by
          rw [HTK.out, List.length_append, List.map_append]; exact hown4
        clear hgrow hown hown4 HTK hbel
        go_wp2
        go_roundw
        case rel => exact ⟨D.length + 1, by omega, by go_num, R3, R1⟩
        case measure => simp [RowKit.intOf]; omega
      · obtain rfl : k = cs.length := by omega
        rw [List.take_length] at hown
        have b3 := b12.trans (hbel.mono b12.size)
        go_wp2
        go_ret
        exact ⟨_, rfl, by rw [HE.out]; exact own_lower hown b12.size, b3⟩
end Go.Proofs.YtlidgjkipbijlaaGreatDoor.lin
end

section
/- What the document's record answers of any fields: the record that they say, if they say one. -/
set_option linter.unusedVariables false
set_option linter.unusedSimpArgs false
namespace Go.Proofs.YtlidgjkipbijlaaGreatDoor.lin
open Go.RowKit

theorem dots_hit {s : ByteArray} {i : Nat} (h : Lib.NoOcc s.data.toList [46, 46] i) (hi : i + 2 ≤ s.size) (ho : Lib.occAt s.data.toList [46, 46] i = true) : firstV s = s.extract 0 i ∧ secondV s = s.extract (i + 2) s.size := by
  have hx := Lib.index_hit h (by rw [size_list]; omega) ho
  have hc : Lib.cut s.data.toList [46, 46] = (s.data.toList.take i, s.data.toList.drop (i + 2), true) := by
    unfold Lib.cut
    rw [hx, if_pos (by omega)]
    rfl
  unfold secondV firstV
  rw [hc]
  constructor
  · rw [ext_list]; rfl
  · rw [ext_list, show (s.data.toList.drop (i + 2)).take (s.size - (i + 2)) = s.data.toList.drop (i + 2) from List.take_of_length_le (by rw [List.length_drop, size_list]; omega)]; rfl
theorem dots_none {s : ByteArray} {i : Nat} (h : Lib.NoOcc s.data.toList [46, 46] i) (hi : s.size < i + 2) : firstV s = s ∧ secondV s = s := by
  have hx := Lib.index_past (by simp) h (by rw [size_list]; exact hi)
  have hc : Lib.cut s.data.toList [46, 46] = (s.data.toList, [], false) := by
    unfold Lib.cut
    rw [hx, if_neg (by omega)]
  unfold secondV firstV
  rw [hc]
  exact ⟨rfl, rfl⟩
theorem occ_ext (s : ByteArray) (i : Nat) (hi : i + 2 ≤ s.size) : Lib.occAt s.data.toList [46, 46] i = ((s.extract i (i + 2)).data.toList == [46, 46]) := by
  have h0 : i < s.size := by omega
  have h1 : i + 1 < s.size := by omega
  rw [ext_list, BA_data, show i + 2 - i = 2 from by omega]
  unfold Lib.occAt
  rw [drop_cons s i h0, drop_cons s (i + 1) h1]
  simp [List.isPrefixOf, List.take]
  rw [BEq.comm (a := s[i]'h0), BEq.comm (a := s[i + 1]'h1)]

set_option maxHeartbeats 2000000 in
set_option maxRecDepth 100000 in
theorem rrecord_any (f : ByteArray) (fs : List ByteArray) (g cap : Nat) (w : World) (h0 : w.cell? ⟨g, 0, none⟩ = some (.string f)) (hc : ∀ (i : Nat) (x : ByteArray), fs[i]? = some x → w.cell? ⟨g, i + 1, none⟩ = some (.string x)) (hsz : f.size ≤ 1073741824) (hn : fs.length + 1 ≤ cap) (hcap : cap ≤ maxLen) (hl : fs.length ≤ 1099511627776) :
    Calls Tryz.prog 83 #[.slice (some ⟨g, 0, none⟩) (fs.length + 1) cap] w fun e w' => ∃ fv, e = .returned (.tuple #[if recB (f :: fs) then .agg #[.int .i64 (boundsLo f), .int .i64 (boundsHi f), fv] else .agg #[.int .i64 0, .int .i64 0, .slice none 0 0], .bool (recB (f :: fs))]) ∧ (recB (f :: fs) = true → FAt w' w.heap.size fv fs) ∧ Below w.heap.size w w' := by
  obtain ⟨i0, hinf, hz0, hy1, hz2⟩ := info_parts infoStr2
  have HRB : Hid (recB (f :: fs) = (decide (1 ≤ fs.length) && boundsB f)) := recB_cons f fs
  have HC : Hid (∀ (i : Nat) (x : ByteArray), fs[i]? = some x → w.cell? ⟨g, i + 1, none⟩ = some (.string x)) := hc
  clear hc
  have hgl : g < w.heap.size := World.block_lt_of_cell? w _ h0
  have A0 : ∀ o, (w.alloc o).cell? ⟨g, 0, none⟩ = some (.string f) := fun o => (World.cell?_of_block (w := w) (a := ⟨g, 0, none⟩) (Below.heap_alloc _ _ _ hgl)).trans h0
  by_cases h1 : 1 ≤ fs.length
  · have HB3 : Hid (∀ A B, firstV f = A → secondV f = B → boundsB f = (hexB A && hexB B && decide (hexN A ≤ hexN B)) ∧ boundsLo f = (if boundsB f then hexN A else 0) ∧ boundsHi f = (if boundsB f then hexN B else 0)) := by
      rintro A B rfl rfl
      exact ⟨rfl, rfl, rfl⟩
    generalize recB (f :: fs) = RB at *
    generalize boundsB f = ok at *
    generalize boundsLo f = lo at *
    generalize boundsHi f = hi at *
    go_enter Tryz.func83, Tryz.ntmps83
    have t0 : decide ((fs.length : Int) + 1 < 2) = false := by rw [decide_eq_false_iff_not]; omega
    go_wp2
    go_quiet (fail)
    go_wp2
    go_loopw [4, 5, 6] (fun lo hi i wr => ∃ k : Nat, lo = .string f ∧ hi = .string f ∧ i = .int .i64 k ∧ k ≤ f.size ∧ Hid (Lib.NoOcc f.data.toList [46, 46] k) ∧ ∃ q, wr = (w.alloc (.cells #[.int .i64 0, .int .i64 0, .slice none 0 0] 82)).drewN q) (fun _ _ i _ => f.size - (RowKit.intOf i).toNat)
    case atStart => exact ⟨0, rfl, rfl, rfl, Nat.zero_le _, fun j h => absurd h (Nat.not_lt_zero _), _, rfl⟩
    case round =>
      obtain ⟨k, rfl, rfl, rfl, hk, HNO, q, rfl⟩ := hrel
      by_cases hlt : k + 2 ≤ f.size
      · have l1 : (k : Int) + 1 < (f.size : Int) := by omega
        have l2 : (k : Int) + 2 ≤ (f.size : Int) := by omega
        have ho := occ_ext f k hlt
        cases hoc : Lib.occAt f.data.toList [46, 46] k with
        | true =>
          have t1 : ((f.extract k (k + 2)).toList == [46, 46]) = true := by rw [Lib.toList_data, ← ho]; exact hoc
          obtain ⟨hA, hB⟩ := dots_hit HNO.out hlt hoc
          have HA : Hid (firstV f = f.extract 0 k) := hA
          have HB : Hid (secondV f = f.extract (k + 2) f.size) := hB
          have sA : (f.extract 0 k).size ≤ 1073741824 := by rw [ByteArray.size_extract]; omega
          have sB : (f.extract (k + 2) f.size).size ≤ 1073741824 := by rw [ByteArray.size_extract]; omega
          clear hA hB ho hoc HNO
          go_wp2
          go_quiet (fail)
          have hbb : ∀ q, Below w.heap.size w ((w.alloc (.cells #[.int .i64 0, .int .i64 0, .slice none 0 0] 82)).drewN q) := fun q => ((Below.refl _ w).alloc (Nat.le_refl _) _).trans ⟨rfl, rfl, rfl, Nat.le_refl _, fun _ _ => rfl⟩
          have hrow : ∀ q, ((w.alloc (.cells #[.int .i64 0, .int .i64 0, .slice none 0 0] 82)).drewN q).heap[w.heap.size]? = some (.cells #[.int .i64 0, .int .i64 0, .slice none 0 0] 82) := fun q => heap_alloc_new w _
          have HROW : Hid (∀ q, ((w.alloc (.cells #[.int .i64 0, .int .i64 0, .slice none 0 0] 82)).drewN q).heap[w.heap.size]? = some (.cells #[.int .i64 0, .int .i64 0, .slice none 0 0] 82)) := hrow
          have HBE : Hid (∀ q, Below w.heap.size w ((w.alloc (.cells #[.int .i64 0, .int .i64 0, .slice none 0 0] 82)).drewN q)) := hbb
          obtain ⟨x, hx⟩ : ∃ x, hexN (f.extract 0 k) = x := ⟨_, rfl⟩
          obtain ⟨p, hp⟩ : ∃ p, hexB (f.extract 0 k) = p := ⟨_, rfl⟩
          obtain ⟨y, hy⟩ : ∃ y, hexN (f.extract (k + 2) f.size) = y := ⟨_, rfl⟩
          obtain ⟨r, hr⟩ : ∃ r, hexB (f.extract (k + 2) f.size) = r := ⟨_, rfl⟩
          have H1 : ∀ W, Calls Tryz.prog 64 #[.string (f.extract 0 k)] W fun e w' => e = .returned (.tuple #[.int .i64 x, .bool p]) ∧ w' = W := fun W => by have := rhex_any (f.extract 0 k) W (by omega); rw [hx, hp] at this; exact this
          have H2 : ∀ W, Calls Tryz.prog 64 #[.string (f.extract (k + 2) f.size)] W fun e w' => e = .returned (.tuple #[.int .i64 y, .bool r]) ∧ w' = W := fun W => by have := rhex_any (f.extract (k + 2) f.size) W (by omega); rw [hy, hr] at this; exact this
          obtain ⟨hok, hlo, hhi⟩ := HB3.out _ _ HA.out HB.out
          have HOK : Hid (ok = (p && r && decide (x ≤ y))) := by subst hx hp hy hr; exact hok
          have HLO : Hid (lo = if ok then x else 0) := by subst hx; exact hlo
          have HHI : Hid (hi = if ok then y else 0) := by subst hy; exact hhi
          clear HA HB HB3 hok hlo hhi hx hp hy hr hrow hbb
          go_wp2_with fail
          refine (H1 _).mono ?_
          rintro e w1 ⟨rfl, hw1⟩
          subst hw1
          go_wp2_with fail
          refine (H2 _).mono ?_
          rintro e w1 ⟨rfl, hw1⟩
          subst hw1
          clear H1 H2
          cases ok with
          | false =>
            obtain rfl : RB = false := by rw [HRB.out]; simp
            cases p with
            | false =>
              clear HLO HHI HRB HOK
              go_wp2
              refine bodyPost_ret (results_row_tmp Tryz.results83 _ _ w.heap.size _ _ _ _ rfl (row3_set (HROW.out _) _ _ _) Tryz.underlying82 rfl infoRec) rfl ?_
              exact ⟨rfl, below3_set (HBE.out _) _ _ _⟩
            | true =>
              cases r with
              | false =>
                clear HLO HHI HRB HOK
                go_wp2
                refine bodyPost_ret (results_row_tmp Tryz.results83 _ _ w.heap.size _ _ _ _ rfl (row3_set (HROW.out _) _ _ _) Tryz.underlying82 rfl infoRec) rfl ?_
                exact ⟨rfl, below3_set (HBE.out _) _ _ _⟩
              | true =>
                have hxy : decide (x ≤ y) = false := by have := HOK.out; simpa using this.symm
                have hyx : y < x := by have := of_decide_eq_false hxy; omega
                clear HLO HHI HRB HOK hxy
                go_wp2
                refine bodyPost_ret (results_row_tmp Tryz.results83 _ _ w.heap.size _ _ _ _ rfl (row3_set (HROW.out _) _ _ _) Tryz.underlying82 rfl infoRec) rfl ?_
                exact ⟨rfl, below3_set (HBE.out _) _ _ _⟩
          | true =>
            obtain rfl : RB = true := by rw [HRB.out]; simp [h1]
            have hpr : (p && r && decide (x ≤ y)) = true := HOK.out.symm
            obtain ⟨⟨rfl, rfl⟩, hxy⟩ : (p = true ∧ r = true) ∧ x ≤ y := by simpa using hpr
            obtain rfl : lo = x := by rw [HLO.out]; rfl
            obtain rfl : hi = y := by rw [HHI.out]; rfl
            clear HLO HHI HRB HOK hpr
            have own0 : ∀ q, (((w.alloc (.cells #[.int .i64 0, .int .i64 0, .slice none 0 0] 82)).drewN q).alloc (.cells #[] 9)).ownsRow (w.heap.size + 1) 9 1 (.slice (some ⟨w.heap.size + 1, 0, none⟩) 0 0) 0 [] := fun q =>
              ⟨rfl, .inr ⟨w.heap.size + 1, 0, #[], rfl, Nat.le_refl _, by have := World.alloc_heap_new ((w.alloc (.cells #[.int .i64 0, .int .i64 0, .slice none 0 0] 82)).drewN q) (.cells #[] 9); rwa [show ((w.alloc (.cells #[.int .i64 0, .int .i64 0, .slice none 0 0] 82)).drewN q).heap.size = w.heap.size + 1 from World.size_alloc _ _] at this, Nat.le_refl _, Nat.zero_le _, rfl, rfl⟩⟩
            have OWN0 : Hid (∀ q, (((w.alloc (.cells #[.int .i64 0, .int .i64 0, .slice none 0 0] 82)).drewN q).alloc (.cells #[] 9)).ownsRow (w.heap.size + 1) 9 1 (.slice (some ⟨w.heap.size + 1, 0, none⟩) 0 0) 0 []) := own0
            have BEL : Hid (∀ q, Below w.heap.size w (((w.alloc (.cells #[.int .i64 0, .int .i64 0, .slice none 0 0] 82)).drewN q).alloc (.cells #[] 9))) := fun q => (HBE.out q).alloc (HBE.out q).size _
            have CEL : Hid (∀ q (j : Nat) (u : Value), (fs.map Value.string)[j]? = some u → (((w.alloc (.cells #[.int .i64 0, .int .i64 0, .slice none 0 0] 82)).drewN q).alloc (.cells #[] 9)).cell? ((⟨g, 1, none⟩ : Addr).add j) = some u) := by
              intro q j u hj
              rw [List.getElem?_map] at hj
              cases hx : fs[j]? with
              | none => rw [hx] at hj; cases hj
              | some x0 =>
                rw [hx] at hj
                obtain rfl : Value.string x0 = u := by simpa using hj
                rw [show ((⟨g, 1, none⟩ : Addr).add j) = ⟨g, j + 1, none⟩ from by rw [Addr.add_lit, Nat.add_comm], (BEL.out q).cell (p := ⟨g, j + 1, none⟩) hgl]
                exact HC.out j x0 hx
            have RW4 : Hid (∀ q, (((w.alloc (.cells #[.int .i64 0, .int .i64 0, .slice none 0 0] 82)).drewN q).alloc (.cells #[] 9)).heap[w.heap.size]? = some (.cells #[.int .i64 0, .int .i64 0, .slice none 0 0] 82)) := fun q => (Below.heap_alloc _ _ _ (by show w.heap.size < (w.alloc _).heap.size; simp)).trans (HROW.out q)
            have SZ4 : Hid (∀ q, (((w.alloc (.cells #[.int .i64 0, .int .i64 0, .slice none 0 0] 82)).drewN q).alloc (.cells #[] 9)).heap.size = w.heap.size + 2) := fun q => by
              rw [World.size_alloc, show ((w.alloc (.cells #[.int .i64 0, .int .i64 0, .slice none 0 0] 82)).drewN q).heap.size = w.heap.size + 1 from World.size_alloc _ _]
            clear own0 HROW HBE
            go_wp2_with (at_builtin; refine wpList_append_own _ rfl _ _ 80 rfl (w.heap.size + 1) 9 i0 (.string ByteArray.empty) 1 16 Tryz.underlying80 hinf hz0 hy1 hz2 rfl (by decide) _ _ _ rfl (OWN0.out _) ⟨g, 1, none⟩ fs.length (cap - 1) (fs.map Value.string) rfl (by simp) (CEL.out _) (by simp [Value.oneCell']) (by unfold maxLen; omega) (by omega) (by rw [SZ4.out]; omega) ?_)
            intro v' w4 hown4 hgrow _
            have hown5 : w4.ownsRow (w.heap.size + 1) 9 1 v' fs.length (fs.map Value.string) := by simpa using hown4
            have hrow4 : w4.heap[w.heap.size]? = some (.cells #[.int .i64 0, .int .i64 0, .slice none 0 0] 82) := (hgrow.block w.heap.size (by rw [SZ4.out]; omega) (by simp [Value.ownBlock])).trans (RW4.out _)
            have b4 : Below w.heap.size w w4 := (BEL.out _).grown hgrow (by rw [SZ4.out]; omega) (fun j e => by simp [Value.ownBlock] at e; omega)
            obtain ⟨va, vc, rfl, hrv⟩ := strRow hown5
            obtain ⟨g', rfl, hg1, hg2, _, _, ⟨cur, hcur, hcc⟩, _⟩ := hrv (by omega)
            have HCU : Hid (w4.heap[g']? = some (.cells cur 9 (0, 0)) ∧ ∀ (i : Nat) (x : ByteArray), fs[i]? = some x → cur[i]? = some (Value.string x)) := ⟨hcur, hcc⟩
            have HR4 : Hid (w4.heap[w.heap.size]? = some (.cells #[.int .i64 0, .int .i64 0, .slice none 0 0] 82)) := hrow4
            have k0 := cell_of_row w4 w.heap.size 0 _ _ _ hrow4
            have k1 := cell_of_row w4 w.heap.size 1 _ _ _ hrow4
            have k2 := cell_of_row w4 w.heap.size 2 _ _ _ hrow4
            have f0 := frozen_of_row w4 w.heap.size 0 _ _ hrow4
            have f1 := frozen_of_row w4 w.heap.size 1 _ _ hrow4
            have f2 := frozen_of_row w4 w.heap.size 2 _ _ hrow4
            simp at k0 k1 k2
            clear hown4 hown5 hgrow hrow4 hrv hcur hcc OWN0 BEL CEL RW4 SZ4
            go_wp2
            refine bodyPost_ret (results_row_tmp Tryz.results83 _ _ w.heap.size _ _ _ _ rfl (row3_set HR4.out _ _ _) Tryz.underlying82 rfl infoRec) rfl ?_
            refine ⟨_, rfl, ⟨g', 0, vc, cur, rfl, by omega, ?_, fun j hj => ?_⟩, below3_set b4 _ _ _⟩
            · rw [Below.heap_setCell _ _ _ g' (by show g' ≠ w.heap.size; omega), Below.heap_setCell _ _ _ g' (by show g' ≠ w.heap.size; omega), Below.heap_setCell _ _ _ g' (by show g' ≠ w.heap.size; omega)]
              exact HCU.out.1
            · rw [Nat.zero_add, HCU.out.2 j _ (List.getElem?_eq_getElem hj), List.getD_eq_getElem?_getD, List.getElem?_eq_getElem hj]
              rfl
        | false =>
          have t1 : ((f.extract k (k + 2)).toList == [46, 46]) = false := by rw [Lib.toList_data, ← ho]; exact hoc
          have HNO2 : Hid (Lib.NoOcc f.data.toList [46, 46] (k + 1)) := by
            intro j hj
            rcases Nat.lt_or_ge j k with h | h
            · exact HNO.out j h
            · obtain rfl : j = k := by omega
              exact hoc
          clear ho hoc HNO
          go_wp2
          go_roundw
          case rel => exact ⟨k + 1, rfl, rfl, by go_num, by omega, HNO2, _, rfl⟩
          case measure => simp [RowKit.intOf]; omega
      · have l1 : ¬ ((k : Int) + 1 < (f.size : Int)) := by omega
        obtain ⟨hA, hB⟩ := dots_none HNO.out (by omega)
        have HA : Hid (firstV f = f) := hA
        have HB : Hid (secondV f = f) := hB
        clear hA hB HNO
        have hbb : ∀ q, Below w.heap.size w ((w.alloc (.cells #[.int .i64 0, .int .i64 0, .slice none 0 0] 82)).drewN q) := fun q => ((Below.refl _ w).alloc (Nat.le_refl _) _).trans ⟨rfl, rfl, rfl, Nat.le_refl _, fun _ _ => rfl⟩
        have hrow : ∀ q, ((w.alloc (.cells #[.int .i64 0, .int .i64 0, .slice none 0 0] 82)).drewN q).heap[w.heap.size]? = some (.cells #[.int .i64 0, .int .i64 0, .slice none 0 0] 82) := fun q => heap_alloc_new w _
        have HROW : Hid (∀ q, ((w.alloc (.cells #[.int .i64 0, .int .i64 0, .slice none 0 0] 82)).drewN q).heap[w.heap.size]? = some (.cells #[.int .i64 0, .int .i64 0, .slice none 0 0] 82)) := hrow
        have HBE : Hid (∀ q, Below w.heap.size w ((w.alloc (.cells #[.int .i64 0, .int .i64 0, .slice none 0 0] 82)).drewN q)) := hbb
        obtain ⟨x, hx⟩ : ∃ x, hexN (f) = x := ⟨_, rfl⟩
        obtain ⟨p, hp⟩ : ∃ p, hexB (f) = p := ⟨_, rfl⟩
        obtain ⟨y, hy⟩ : ∃ y, hexN (f) = y := ⟨_, rfl⟩
        obtain ⟨r, hr⟩ : ∃ r, hexB (f) = r := ⟨_, rfl⟩
        have H1 : ∀ W, Calls Tryz.prog 64 #[.string (f)] W fun e w' => e = .returned (.tuple #[.int .i64 x, .bool p]) ∧ w' = W := fun W => by have := rhex_any (f) W (by omega); rw [hx, hp] at this; exact this
        have H2 : ∀ W, Calls Tryz.prog 64 #[.string (f)] W fun e w' => e = .returned (.tuple #[.int .i64 y, .bool r]) ∧ w' = W := fun W => by have := rhex_any (f) W (by omega); rw [hy, hr] at this; exact this
        obtain ⟨hok, hlo, hhi⟩ := HB3.out _ _ HA.out HB.out
        have HOK : Hid (ok = (p && r && decide (x ≤ y))) := by subst hx hp hy hr; exact hok
        have HLO : Hid (lo = if ok then x else 0) := by subst hx; exact hlo
        have HHI : Hid (hi = if ok then y else 0) := by subst hy; exact hhi
        clear HA HB HB3 hok hlo hhi hx hp hy hr hrow hbb
        go_wp2_with fail
        refine (H1 _).mono ?_
        rintro e w1 ⟨rfl, hw1⟩
        subst hw1
        go_wp2_with fail
        refine (H2 _).mono ?_
        rintro e w1 ⟨rfl, hw1⟩
        subst hw1
        clear H1 H2
        cases ok with
        | false =>
          obtain rfl : RB = false := by rw [HRB.out]; simp
          cases p with
          | false =>
            clear HLO HHI HRB HOK
            go_wp2
            refine bodyPost_ret (results_row_tmp Tryz.results83 _ _ w.heap.size _ _ _ _ rfl (row3_set (HROW.out _) _ _ _) Tryz.underlying82 rfl infoRec) rfl ?_
            exact ⟨rfl, below3_set (HBE.out _) _ _ _⟩
          | true =>
            cases r with
            | false =>
              clear HLO HHI HRB HOK
              go_wp2
              refine bodyPost_ret (results_row_tmp Tryz.results83 _ _ w.heap.size _ _ _ _ rfl (row3_set (HROW.out _) _ _ _) Tryz.underlying82 rfl infoRec) rfl ?_
              exact ⟨rfl, below3_set (HBE.out _) _ _ _⟩
            | true =>
              have hxy : decide (x ≤ y) = false := by have := HOK.out; simpa using this.symm
              have hyx : y < x := by have := of_decide_eq_false hxy; omega
              clear HLO HHI HRB HOK hxy
              go_wp2
              refine bodyPost_ret (results_row_tmp Tryz.results83 _ _ w.heap.size _ _ _ _ rfl (row3_set (HROW.out _) _ _ _) Tryz.underlying82 rfl infoRec) rfl ?_
              exact ⟨rfl, below3_set (HBE.out _) _ _ _⟩
        | true =>
          obtain rfl : RB = true := by rw [HRB.out]; simp [h1]
          have hpr : (p && r && decide (x ≤ y)) = true := HOK.out.symm
          obtain ⟨⟨rfl, rfl⟩, hxy⟩ : (p = true ∧ r = true) ∧ x ≤ y := by simpa using hpr
          obtain rfl : lo = x := by rw [HLO.out]; rfl
          obtain rfl : hi = y := by rw [HHI.out]; rfl
          clear HLO HHI HRB HOK hpr
          have own0 : ∀ q, (((w.alloc (.cells #[.int .i64 0, .int .i64 0, .slice none 0 0] 82)).drewN q).alloc (.cells #[] 9)).ownsRow (w.heap.size + 1) 9 1 (.slice (some ⟨w.heap.size + 1, 0, none⟩) 0 0) 0 [] := fun q =>
            ⟨rfl, .inr ⟨w.heap.size + 1, 0, #[], rfl, Nat.le_refl _, by have := World.alloc_heap_new ((w.alloc (.cells #[.int .i64 0, .int .i64 0, .slice none 0 0] 82)).drewN q) (.cells #[] 9); rwa [show ((w.alloc (.cells #[.int .i64 0, .int .i64 0, .slice none 0 0] 82)).drewN q).heap.size = w.heap.size + 1 from World.size_alloc _ _] at this, Nat.le_refl _, Nat.zero_le _, rfl, rfl⟩⟩
          have OWN0 : Hid (∀ q, (((w.alloc (.cells #[.int .i64 0, .int .i64 0, .slice none 0 0] 82)).drewN q).alloc (.cells #[] 9)).ownsRow (w.heap.size + 1) 9 1 (.slice (some ⟨w.heap.size + 1, 0, none⟩) 0 0) 0 []) := own0
          have BEL : Hid (∀ q, Below w.heap.size w (((w.alloc (.cells #[.int .i64 0, .int .i64 0, .slice none 0 0] 82)).drewN q).alloc (.cells #[] 9))) := fun q => (HBE.out q).alloc (HBE.out q).size _
          have CEL : Hid (∀ q (j : Nat) (u : Value), (fs.map Value.string)[j]? = some u → (((w.alloc (.cells #[.int .i64 0, .int .i64 0, .slice none 0 0] 82)).drewN q).alloc (.cells #[] 9)).cell? ((⟨g, 1, none⟩ : Addr).add j) = some u) := by
            intro q j u hj
            rw [List.getElem?_map] at hj
            cases hx : fs[j]? with
            | none => rw [hx] at hj; cases hj
            | some x0 =>
              rw [hx] at hj
              obtain rfl : Value.string x0 = u := by simpa using hj
              rw [show ((⟨g, 1, none⟩ : Addr).add j) = ⟨g, j + 1, none⟩ from by rw [Addr.add_lit, Nat.add_comm], (BEL.out q).cell (p := ⟨g, j + 1, none⟩) hgl]
              exact HC.out j x0 hx
          have RW4 : Hid (∀ q, (((w.alloc (.cells #[.int .i64 0, .int .i64 0, .slice none 0 0] 82)).drewN q).alloc (.cells #[] 9)).heap[w.heap.size]? = some (.cells #[.int .i64 0, .int .i64 0, .slice none 0 0] 82)) := fun q => (Below.heap_alloc _ _ _ (by show w.heap.size < (w.alloc _).heap.size; simp)).trans (HROW.out q)
          have SZ4 : Hid (∀ q, (((w.alloc (.cells #[.int .i64 0, .int .i64 0, .slice none 0 0] 82)).drewN q).alloc (.cells #[] 9)).heap.size = w.heap.size + 2) := fun q => by
            rw [World.size_alloc, show ((w.alloc (.cells #[.int .i64 0, .int .i64 0, .slice none 0 0] 82)).drewN q).heap.size = w.heap.size + 1 from World.size_alloc _ _]
          clear own0 HROW HBE
          go_wp2_with (at_builtin; refine wpList_append_own _ rfl _ _ 80 rfl (w.heap.size + 1) 9 i0 (.string ByteArray.empty) 1 16 Tryz.underlying80 hinf hz0 hy1 hz2 rfl (by decide) _ _ _ rfl (OWN0.out _) ⟨g, 1, none⟩ fs.length (cap - 1) (fs.map Value.string) rfl (by simp) (CEL.out _) (by simp [Value.oneCell']) (by unfold maxLen; omega) (by omega) (by rw [SZ4.out]; omega) ?_)
          intro v' w4 hown4 hgrow _
          have hown5 : w4.ownsRow (w.heap.size + 1) 9 1 v' fs.length (fs.map Value.string) := by simpa using hown4
          have hrow4 : w4.heap[w.heap.size]? = some (.cells #[.int .i64 0, .int .i64 0, .slice none 0 0] 82) := (hgrow.block w.heap.size (by rw [SZ4.out]; omega) (by simp [Value.ownBlock])).trans (RW4.out _)
          have b4 : Below w.heap.size w w4 := (BEL.out _).grown hgrow (by rw [SZ4.out]; omega) (fun j e => by simp [Value.ownBlock] at e; omega)
          obtain ⟨va, vc, rfl, hrv⟩ := strRow hown5
          obtain ⟨g', rfl, hg1, hg2, _, _, ⟨cur, hcur, hcc⟩, _⟩ := hrv (by omega)
          have HCU : Hid (w4.heap[g']? = some (.cells cur 9 (0, 0)) ∧ ∀ (i : Nat) (x : ByteArray), fs[i]? = some x → cur[i]? = some (Value.string x)) := ⟨hcur, hcc⟩
          have HR4 : Hid (w4.heap[w.heap.size]? = some (.cells #[.int .i64 0, .int .i64 0, .slice none 0 0] 82)) := hrow4
          have k0 := cell_of_row w4 w.heap.size 0 _ _ _ hrow4
          have k1 := cell_of_row w4 w.heap.size 1 _ _ _ hrow4
          have k2 := cell_of_row w4 w.heap.size 2 _ _ _ hrow4
          have f0 := frozen_of_row w4 w.heap.size 0 _ _ hrow4
          have f1 := frozen_of_row w4 w.heap.size 1 _ _ hrow4
          have f2 := frozen_of_row w4 w.heap.size 2 _ _ hrow4
          simp at k0 k1 k2
          clear hown4 hown5 hgrow hrow4 hrv hcur hcc OWN0 BEL CEL RW4 SZ4
          go_wp2
          refine bodyPost_ret (results_row_tmp Tryz.results83 _ _ w.heap.size _ _ _ _ rfl (row3_set HR4.out _ _ _) Tryz.underlying82 rfl infoRec) rfl ?_
          refine ⟨_, rfl, ⟨g', 0, vc, cur, rfl, by omega, ?_, fun j hj => ?_⟩, below3_set b4 _ _ _⟩
          · rw [Below.heap_setCell _ _ _ g' (by show g' ≠ w.heap.size; omega), Below.heap_setCell _ _ _ g' (by show g' ≠ w.heap.size; omega), Below.heap_setCell _ _ _ g' (by show g' ≠ w.heap.size; omega)]
            exact HCU.out.1
          · rw [Nat.zero_add, HCU.out.2 j _ (List.getElem?_eq_getElem hj), List.getD_eq_getElem?_getD, List.getElem?_eq_getElem hj]
            rfl
  · obtain hRB : recB (f :: fs) = false := by rw [HRB.out]; simp [h1]
    rw [hRB]
    have t0 : decide ((fs.length : Int) + 1 < 2) = true := by rw [decide_eq_true_iff]; omega
    clear hRB HRB
    go_enter Tryz.func83, Tryz.ntmps83
    go_wp2
    refine bodyPost_ret (results_row_tmp Tryz.results83 _ _ w.heap.size _ _ _ _ rfl (heap_alloc_new w _) Tryz.underlying82 rfl infoRec) rfl ?_
    exact ⟨rfl, (Below.refl _ w).alloc (Nat.le_refl _) _⟩
end Go.Proofs.YtlidgjkipbijlaaGreatDoor.lin
end

section
/- The statement LinesApart, walked. -/
set_option linter.unusedVariables false
set_option linter.unusedSimpArgs false
namespace Go.Proofs.YtlidgjkipbijlaaGreatDoor.lin
open Go.RowKit

theorem Recs.lower {w : World} {base base2 : Nat} {v : Value} {rs : List RecT} (h : Recs w base2 v rs) (hb : base ≤ base2) : Recs w base v rs := by
  obtain ⟨L, hL, ho, hf⟩ := h
  refine ⟨L, hL, ⟨ho.1, ?_⟩, fun q hq => (hf q hq).lower hb⟩
  rcases ho.2 with hn | ⟨g, cap, cur, rfl, hg, rest⟩
  · exact .inl hn
  · exact .inr ⟨g, cap, cur, rfl, by omega, rest⟩
theorem Recs.kept {w w' : World} {base : Nat} {v : Value} {rs : List RecT} (h : Recs w base v rs) (hb : Below w.heap.size w w') : Recs w' base v rs := h.turns (D := fun _ => False) (.of_below hb) (fun _ h => h.elim)
end Go.Proofs.YtlidgjkipbijlaaGreatDoor.lin
end

section
/- What the document's Parse answers of any text: the same as lines.Parse. -/
set_option linter.unusedVariables false
set_option linter.unusedSimpArgs false
namespace Go.Proofs.YtlidgjkipbijlaaGreatDoor.lin
open Go.RowKit

theorem Recs.push {A B : World} {base : Nat} {v v' : Value} {L : List RR} {lo hi : Int} {fv : Value} {fs : List ByteArray} (hf : ∀ q ∈ L, FAt A base q.fv q.fs) (ho : A.ownsRow base 82 3 v L.length (flatR L)) (hF : FAt A base fv fs) (hgrow : A.grownBy B v.ownBlock)
    (hown : B.ownsRow base 82 3 v' (L.length + 1) (flatR L ++ [.int .i64 lo, .int .i64 hi, fv])) : Recs B base v' (L.map RR.plain ++ [(lo, hi, fs)]) := by
  have t : Turns (fun k => ∃ cur, A.heap[k]? = some (.cells cur 82 (0, 0))) A B := .of_grown hgrow (own_typed ho)
  refine ⟨L ++ [⟨lo, hi, fv, fs⟩], by rw [List.map_append]; rfl, by rw [List.length_append, flatR_append]; exact hown, fun q hq => ?_⟩
  rcases List.mem_append.1 hq with hq | hq
  · exact (hf q hq).turns t (fun k d => .inr d)
  · obtain rfl := List.mem_singleton.1 hq
    exact hF.turns t (fun k d => .inr d)

set_option maxHeartbeats 4000000 in
set_option maxRecDepth 100000 in
theorem rparse_any (s : ByteArray) (w : World) (hs : s.size ≤ 1073741824) :
    Calls Tryz.prog 63 #[.string s] w fun e w' => ∃ v, e = .returned (.tuple #[v, .int .i64 (parseV s).2.1, .int .i64 (parseV s).2.2]) ∧ Recs w' w.heap.size v (parseV s).1 ∧ Below w.heap.size w w' := by
  obtain ⟨i0, hi, hz0, hy1, hz2⟩ := info_parts infoRec3
  have RC := rcut_any s 10 w (by omega)
  go_enter Tryz.func63, Tryz.ntmps63
  go_wp2_with fail
  refine RC.mono ?_
  rintro e w1 ⟨v, rfl, hown, b1⟩
  obtain ⟨a, c, rfl, hrow⟩ := strRow hown
  have hpos : 0 < (cutV s ((10 : Nat) : Int)).length := (cutV_head s 10).2
  obtain ⟨g, rfl, _, hg, _, _, _, hcell⟩ := hrow hpos
  have HC : Hid (∀ (i : Nat) (x : ByteArray), (cutV s 10)[i]? = some x → w1.cell? ⟨g, i, none⟩ = some (.string x)) := hcell
  have HN : Hid (∀ i, i < (cutV s 10).length → ∃ x, (cutV s 10)[i]? = some x ∧ (cutV s 10).take (i + 1) = (cutV s 10).take i ++ [x] ∧ cutV s 10 = (cutV s 10).take i ++ x :: (cutV s 10).drop (i + 1)) := fun i h => ⟨_, List.getElem?_eq_getElem h, by rw [List.take_add_one, List.getElem?_eq_getElem h]; rfl, by rw [← List.drop_eq_getElem_cons h, List.take_append_drop]⟩
  have HSZ : Hid (∀ x ∈ cutV s 10, x.size ≤ s.size) := fun x hx => cuts_size _ _ _ _ _ x hx
  have HPA : Hid ((∀ x ∈ cutV s 10, lineOk x = true) → parseV s = (recsOf (cutV s 10), 0, 0)) := fun h => parseV_ok h
  have HPB : Hid (∀ p x rest, cutV s 10 = p ++ x :: rest → (∀ y ∈ p, lineOk y = true) → lineOk x = false → parseV s = ([], p.length + 1, 20)) := fun p x rest h1 h2 h3 => parseV_bad h1 h2 h3
  have hcl := cutV_len2 s 10
  have e10 : cutV s ((10 : Nat) : Int) = cutV s 10 := rfl
  rw [e10]
  clear e10 hrow hcell hpos hown RC
  generalize cutV s 10 = cs at *
  go_wp2
  go_loopw [5, 14] (fun v i wr => ∃ k : Nat, k ≤ cs.length ∧ i = .int .i64 k ∧ Hid (∀ y ∈ cs.take k, lineOk y = true) ∧ Hid (Recs wr w1.heap.size v (recsOf (cs.take k))) ∧ Below w1.heap.size w1 wr) (fun _ i _ => cs.length - (RowKit.intOf i).toNat)
  case atStart => exact ⟨0, Nat.zero_le _, rfl, fun y hy => (by simp at hy), Recs.nil _ _, Below.refl _ _⟩
  case round =>
    obtain ⟨k, hk, rfl, HOK, HR, hbel⟩ := hrel
    by_cases hlt : k < cs.length
    · obtain ⟨x, hx, htk, hsp⟩ := HN.out k hlt
      have hlt' : (k : Int) < (cs.length : Int) := by omega
      have cx : wr.cell? ⟨g, k, none⟩ = some (.string x) := (hbel.cell (p := ⟨g, k, none⟩) hg).trans (HC.out k x hx)
      have hxs := HSZ.out x (List.mem_of_getElem? hx)
      have RF := rfields_any x wr (by omega)
      have HTK : Hid (cs.take (k + 1) = cs.take k ++ [x]) := htk
      have HSP : Hid (cs = cs.take k ++ x :: cs.drop (k + 1)) := hsp
      have hlk : (cs.take k).length = k := by rw [List.length_take]; omega
      have HLK : Hid ((cs.take k).length = k) := hlk
      have hrl := recsOf_len (cs.take k)
      rw [hlk] at hrl
      have hbs := hbel.size
      clear htk hx hsp hlk
      go_wp2_with fail
      refine RF.mono ?_
      rintro e w2 ⟨fv, rfl, hown, b2⟩
      clear RF cx
      have b12 := hbel.trans (b2.mono hbs)
      have hs2 := b2.size
      have HR2 : Hid (Recs w2 w1.heap.size u5 (recsOf (cs.take k))) := HR.out.kept b2
      have hfl := fields_len x
      have hsf := fields_sizes x
      have HLR : Hid (recsOf (cs.take (k + 1)) = recsOf (cs.take k) ++ lineRecs x) := by rw [Hid, HTK.out, recsOf_snoc]
      cases hfs : fieldsV x with
      | nil =>
        rw [hfs] at hown
        obtain ⟨sa, sc, rfl⟩ := own_slice hown
        have R2 : Hid (Recs w2 w1.heap.size u5 (recsOf (cs.take (k + 1)))) := by
          rw [Hid, HLR.out, show lineRecs x = [] from by unfold lineRecs; rw [hfs]; rfl, List.append_nil]; exact HR2.out
        have R1 : Hid (∀ y ∈ cs.take (k + 1), lineOk y = true) := by
          intro y hy
          rw [HTK.out] at hy
          rcases List.mem_append.1 hy with hy | hy
          · exact HOK.out y hy
          · obtain rfl := List.mem_singleton.1 hy
            unfold lineOk; rw [hfs]; rfl
        clear hown HR HR2 HOK
        go_wp2
        go_roundw
        case rel => exact ⟨k + 1, by omega, by go_num, R1, R2, b12⟩
        case measure => simp [RowKit.intOf]; omega
      | cons f fs =>
        rw [hfs] at hown hfl hsf
        obtain ⟨fa, fc, rfl, hfrow⟩ := strRow hown
        obtain ⟨g2, rfl, _, hg2, hfc1, hfc2, _, hfcell⟩ := hfrow (by simp)
        have hf0 := hfcell 0 f rfl
        have hff : f.size ≤ 1073741824 := by have := hsf f (by simp); omega
        have hlf : fs.length ≤ 1073741825 := by simp at hfl; omega
        have RR0 := rrecord_any f fs g2 fc w2 hf0 (fun i y hy => hfcell (i + 1) y (by simpa using hy)) hff (by simpa using hfc1) hfc2 (by omega)
        clear hown hfrow hfcell hf0 HR
        go_wp2_with fail
        refine RR0.mono ?_
        rintro e w3 ⟨fv, rfl, hF, b3⟩
        clear RR0
        have b13 := b12.trans (b3.mono b12.size)
        have hs3 := b3.size
        have HR3 : Hid (Recs w3 w1.heap.size u5 (recsOf (cs.take k))) := HR2.out.kept b3
        clear HR2
        cases hrb : recB (f :: fs) with
        | false =>
          have HV : Hid (parseV s = ([], k + 1, 20)) := by
            have h := HPB.out _ x _ HSP.out HOK.out (by unfold lineOk; rw [hfs, hrb]; rfl)
            rw [HLK.out] at h
            exact h
          clear hF HR3 HOK HLR HTK HSP hfl hsf
          go_wp2
          go_ret3
          refine ⟨.slice none 0 0, by rw [HV.out]; rfl, by rw [HV.out]; exact Recs.nil _ _, (b1.trans (b13.mono b1.size)).alloc (by omega) _⟩
        | true =>
          have hF' := (hF hrb).lower (base := w1.heap.size) (by omega)
          obtain ⟨L, hL, ho, hf⟩ := HR3.out
          have hLl : L.length ≤ k := by
            have := congrArg List.length hL
            rw [List.length_map] at this
            omega
          have HW : Hid (∀ j, u5.ownBlock = some j → w1.heap.size ≤ j) := fun j e => (ho.lt _ e).1
          have HF : Hid (FAt w3 w1.heap.size fv fs) := hF'
          have HFF : Hid (∀ q ∈ L, FAt w3 w1.heap.size q.fv q.fs) := hf
          have HL : Hid (L.map RR.plain = recsOf (cs.take k)) := hL
          have HO3 : Hid (w3.ownsRow w1.heap.size 82 3 u5 L.length (flatR L)) := ho
          have R1 : Hid (∀ y ∈ cs.take (k + 1), lineOk y = true) := by
            intro y hy
            rw [HTK.out] at hy
            rcases List.mem_append.1 hy with hy | hy
            · exact HOK.out y hy
            · obtain rfl := List.mem_singleton.1 hy
              unfold lineOk; rw [hfs, hrb]; rfl
          have HLX : Hid (lineRecs x = [(boundsLo f, boundsHi f, fs)]) := by
            unfold Hid lineRecs; rw [hfs]; rfl
          obtain ⟨ua, uc, rfl⟩ := own_slice ho
          obtain ⟨fg, fo, fc', fcur, rfl, _⟩ := hF'
          clear hF HR3 HOK HTK HSP hfl hsf hL ho hf hrl hfs
          generalize boundsLo f = lo at *
          generalize boundsHi f = hi2 at *
          go_wp2_with (at_builtin; refine wpList_append_own _ rfl _ _ 74 rfl w1.heap.size 82 i0 (.agg #[.int .i64 0, .int .i64 0, .slice none 0 0]) 3 40 Tryz.underlying74 hi hz0 hy1 hz2 rfl (by decide) _ _ _ rfl ((HO3.out.alloc _).alloc _) ⟨w3.heap.size + 1, 0, none⟩ 1 1 [.int .i64 lo, .int .i64 hi2, .slice (some ⟨fg, fo, none⟩) fs.length fc'] rfl rfl (cell3_new _ _ (by simp) _ _ _ _) (by simp [Value.oneCell']) (by unfold maxLen; omega) (by omega) (by simp; omega) ?_)
          intro v' w4 hown4 hgrow _
          have al : ∀ x y, Below w3.heap.size w3 ((w3.alloc x).alloc y) := fun x y => ((Below.refl _ w3).alloc (Nat.le_refl _) _).alloc (by simp) _
          have R2 : Hid (Recs w4 w1.heap.size v' (recsOf (cs.take (k + 1)))) := by
            rw [Hid, HLR.out, HLX.out, ← HL.out]
            exact Recs.push (fun q hq => (HFF.out q hq).kept (al _ _)) ((HO3.out.alloc _).alloc _) (HF.out.kept (al _ _)) hgrow hown4
          have R3 : Below w1.heap.size w1 w4 := (b13.trans ((al _ _).mono (by omega))).grown hgrow (by have := (al (.cells #[.int .i64 lo, .int .i64 hi2, .slice (some ⟨fg, fo, none⟩) fs.length fc'] 82) (.cells #[.int .i64 lo, .int .i64 hi2, .slice (some ⟨fg, fo, none⟩) fs.length fc'] 82)).size; omega) HW.out
          clear hown4 hgrow HO3 HFF HF HLR HLX HL al
          go_wp2
          go_roundw
          case rel => exact ⟨k + 1, by omega, by go_num, R1, R2, R3⟩
          case measure => simp [RowKit.intOf]; omega
    · obtain rfl : k = cs.length := by omega
      rw [List.take_length] at HOK HR
      have HV : Hid (parseV s = (recsOf cs, 0, 0)) := HPA.out HOK.out
      have b3 := b1.trans (hbel.mono b1.size)
      have HRL : Hid (Recs wr w.heap.size u5 (recsOf cs)) := HR.out.lower b1.size
      go_wp2
      go_ret3
      exact ⟨u5, by rw [HV.out]; rfl, by rw [HV.out]; exact HRL.out, b3⟩
end Go.Proofs.YtlidgjkipbijlaaGreatDoor.lin
end

section
/- What lines.Rows answers of any text: the fields of each line that says something. -/
set_option linter.unusedVariables false
set_option linter.unusedSimpArgs false
namespace Go.Proofs.YtlidgjkipbijlaaGreatDoor.lin
open Go.RowKit Go.Shelf
attribute [local go_sem] Oper.semAt_some

def rowOf (x : ByteArray) : List (List ByteArray) := if (fieldsV x).length = 0 then [] else [fieldsV x]
def rowsOf (ls : List ByteArray) : List (List ByteArray) := ls.flatMap rowOf
/-- v is a slice of rows of strings, a row of its own from base on. -/
def RowsAt (w : World) (base : Nat) (v : Value) (rs : List (List ByteArray)) : Prop :=
  ∃ L : List (Value × List ByteArray), L.map (·.2) = rs ∧ w.ownsRow base 80 1 v L.length (L.map (·.1)) ∧ ∀ q ∈ L, FAt w base q.1 q.2
theorem four (w : World) (A0 A1 A2 A3 : Obj) {W : World} (hW : W = (((w.alloc A0).alloc A1).alloc A2).alloc A3) :
    W.heap.size = w.heap.size + 4 ∧ Below w.heap.size w W ∧ W.heap[w.heap.size]? = some A0 ∧ W.heap[w.heap.size + 1]? = some A1 ∧ W.heap[w.heap.size + 2]? = some A2 ∧ W.heap[w.heap.size + 3]? = some A3 := by
  have old : ∀ (V : World) (o o' : Obj) (k : Nat), V.heap[k]? = some o → (V.alloc o').heap[k]? = some o := fun V o o' k h => (Below.heap_alloc V o' k (Array.getElem?_eq_some_iff.1 h).1).trans h
  have new : ∀ (V : World) (o : Obj) (k : Nat), V.heap.size = k → (V.alloc o).heap[k]? = some o := fun V o k h => by rw [← h]; exact World.alloc_heap_new V o
  subst hW
  refine ⟨by simp, ?_, ?_, ?_, ?_, ?_⟩
  · exact ((((Below.refl _ w).alloc (Nat.le_refl _) _).alloc (by simp) _).alloc (by simp; omega) _).alloc (by simp; omega) _
  · exact old _ _ _ _ (old _ _ _ _ (old _ _ _ _ (new _ _ _ rfl)))
  · exact old _ _ _ _ (old _ _ _ _ (new _ _ _ (by simp)))
  · exact old _ _ _ _ (new _ _ _ (by simp))
  · exact new _ _ _ (by simp)

end Go.Proofs.YtlidgjkipbijlaaGreatDoor.lin
end
