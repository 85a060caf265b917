/- Texts that the proof leans on, one behind the other. -/
import Derived.Test.YtlidgjkipbijlaaGreatDoorBdPrp6
import Derived.Test.YtlidgjkipbijlaaGreatDoorBdNam1

section
/- rubricatorref06.points. -/
set_option linter.unusedVariables false
set_option linter.unusedSimpArgs false
namespace Go.Proofs.YtlidgjkipbijlaaGreatDoor.prp
open Go.RowKit Go.Maps lin
open Go.Proofs.YtlidgjkipbijlaaGreatDoor.nam (BA_app ext_one)

theorem one_icell (w : World) (x : Value) (t : TypeId) : ∀ (j : Nat) (u : Value), [x][j]? = some u → (w.alloc (Obj.cells #[x] t)).cell? ((⟨w.heap.size, 0, none⟩ : Addr).add j) = some u := by
  intro j u h
  match j, h with
  | 0, h =>
    simp at h
    subst h
    simp [Addr.add]
theorem spl_drop (s : ByteArray) (p : Nat) (h : p < s.size) (cur : List UInt8) : spl cur (s.data.toList.drop p) = if (s[p]'h) = 32 then cur :: spl [] (s.data.toList.drop (p + 1)) else spl (cur ++ [s[p]'h]) (s.data.toList.drop (p + 1)) := by
  rw [drop_cons s p h]
  rfl
set_option maxHeartbeats 2000000 in
set_option maxRecDepth 1000000 in
theorem points_any (s : ByteArray) (w : World) (hs : s.size ≤ 1000) :
    Calls Tryz.prog 46 #[.string s] w fun e w' => ∃ v, e = .returned v ∧ IOwn w' w.heap.size v (pts ((spl [] s.data.toList).map BA)) ∧ Below w.heap.size w w' := by
  obtain ⟨i0, hi, hz0, hy1, hz2⟩ := info_parts infoInt
  have HEX : Hid (∀ (cur : List UInt8) (W : World), cur.length ≤ 1000 → Calls Tryz.prog 64 #[.string (BA cur)] W fun e w' => e = .returned (.tuple #[.int .i64 (hexN (BA cur)), .bool (hexB (BA cur))]) ∧ w' = W) := fun cur W hc => rhex_any (BA cur) W (by rw [BA_size]; omega)
  have HSD : Hid (∀ p (h : p < s.size) cur, spl cur (s.data.toList.drop p) = if (s[p]'h) = 32 then cur :: spl [] (s.data.toList.drop (p + 1)) else spl (cur ++ [s[p]'h]) (s.data.toList.drop (p + 1))) := spl_drop s
  have HSE : Hid (∀ cur, spl cur (s.data.toList.drop s.size) = [cur]) := fun cur => by rw [List.drop_eq_nil_of_le (by simp)]; rfl
  have HS0 : Hid ([] ++ spl [] (s.data.toList.drop 0) = spl [] s.data.toList) := rfl
  go_enter Tryz.func46, Tryz.ntmps46
  go_wp2
  go_loopw [3, 4, 5] (fun u3 u4 i wr => ∃ (p : Nat) (cur : List UInt8) (dn : List (List UInt8)), p ≤ s.size + 1 ∧ i = .int .i64 p ∧ u4 = .string (BA cur) ∧ cur.length ≤ p ∧ dn.length ≤ p ∧ Hid (p ≤ s.size → dn ++ spl cur (s.data.toList.drop p) = spl [] s.data.toList) ∧ Hid (p = s.size + 1 → dn = spl [] s.data.toList) ∧ wr.ownsRow w.heap.size 3 1 u3 (pts (dn.map BA)).length ((pts (dn.map BA)).map (Value.int .i64)) ∧ Below w.heap.size w wr) (fun _ _ i _ => s.size + 1 - (RowKit.intOf i).toNat)
  case atStart => exact ⟨0, [], [], Nat.zero_le _, rfl, rfl, Nat.le_refl _, Nat.le_refl _, fun _ => HS0.out, fun h => (by omega), World.ownsRow_nil _ _ _ _, Below.refl _ w⟩
  case round =>
    clear HS0
    obtain ⟨p, cur, dn, hp, rfl, rfl, hcl0, hdl, HA0, HZ0, hown, hbel⟩ := hrel
    have hbs := hbel.size
    by_cases hle : p ≤ s.size
    · have hle' : (p : Int) ≤ (s.size : Int) := by omega
      have hcl : cur.length ≤ 1000 := by omega
      have wp1 : IntKind.i64.wrap ((p : Int) + 1) = (p : Int) + 1 := by rw [IntKind.wrap_i64]; omega
      by_cases hlt : p < s.size
      · have hlt' : (p : Int) < (s.size : Int) := by omega
        have hsd := HSD.out p hlt cur
        have HX1 : Hid (s.extract p (p + 1) = BA [s[p]'hlt]) := ext_one s p hlt
        by_cases h32 : (s[p]'hlt) = 32
        · rw [if_pos h32] at hsd
          have HA : Hid (p + 1 ≤ s.size → (dn ++ [cur]) ++ spl [] (s.data.toList.drop (p + 1)) = spl [] s.data.toList) := fun _ => by rw [← HA0.out hle, hsd]; simp
          have HZ : Hid (p + 1 = s.size + 1 → dn ++ [cur] = spl [] s.data.toList) := fun h => by omega
          have t32 : ((s[p]'hlt).toNat : Int) = 32 := by rw [h32]; rfl
          clear hsd HX1 h32 HA0 HZ0 hcl0
          have H := HEX.out cur wr hcl
          have HP : Hid (pts ((dn ++ [cur]).map BA) = pts (dn.map BA) ++ pt (BA cur)) := by unfold Hid; rw [List.map_append, List.map_cons, List.map_nil, pts_snoc]
          have hpt : pt (BA cur) = if hexB (BA cur) then [hexN (BA cur)] else [] := rfl
          have hpl := pts_len (dn.map BA)
          rw [List.length_map] at hpl
          have HW : Hid (∀ j, u3.ownBlock = some j → w.heap.size ≤ j) := fun j e => (hown.lt _ e).1
          cases hx : hexB (BA cur) with
          | true =>
            rw [hx, if_pos rfl] at hpt
            rw [hx] at H
            rw [Hid, hpt] at HP
            have HP2 : Hid (pts ((dn ++ [cur]).map BA) = pts (dn.map BA) ++ [hexN (BA cur)]) := HP
            clear HP hpt hx
            generalize hexN (BA cur) = N at *
            generalize pts (dn.map BA) = M at *
            generalize BA cur = B at *
            go_wp2_with fail
            refine H.mono ?_
            rintro e w5 ⟨rfl, hw5⟩
            rw [hw5]
            clear hw5 w5 H
            go_wp2_with (at_builtin; refine wpList_append_own _ rfl _ _ 35 rfl w.heap.size 3 i0 (.int .i64 0) 1 8 Tryz.underlying35 hi hz0 hy1 hz2 rfl (by decide) _ _ _ rfl (hown.alloc _) ⟨wr.heap.size, 0, none⟩ 1 1 [.int .i64 N] rfl rfl ?c1 ?c2 ?c3 ?c4 ?c5 ?_)
            case c1 => exact one_icell wr _ _
            case c2 => intro u hu; simp at hu; subst hu; rfl
            case c3 => unfold maxLen; omega
            case c4 => omega
            case c5 => simp; omega
            intro v' w4 hown4 hgrow _
            have R2 := Below.grown (hbel.alloc hbs (.cells #[.int .i64 N] 3)) hgrow (by simp; omega) HW.out
            have R1 : w4.ownsRow w.heap.size 3 1 v' (pts ((dn ++ [cur]).map BA)).length ((pts ((dn ++ [cur]).map BA)).map (Value.int .i64)) := by
              rw [HP2.out, List.length_append, List.map_append]; exact hown4
            clear hown4 hgrow HP2
            go_wp2
            go_roundw
            case rel => exact ⟨p + 1, [], dn ++ [cur], by omega, by go_num, rfl, by simp, by simp; omega, HA, HZ, R1, R2⟩
            case measure => simp [intOf]; omega
          | false =>
            rw [hx, if_neg (by decide)] at hpt
            rw [hx] at H
            have R1 : wr.ownsRow w.heap.size 3 1 u3 (pts ((dn ++ [cur]).map BA)).length ((pts ((dn ++ [cur]).map BA)).map (Value.int .i64)) := by
              rw [HP.out, hpt, List.append_nil]; exact hown
            clear HP hpt hx hown
            generalize hexN (BA cur) = N at *
            generalize BA cur = B at *
            go_wp2_with fail
            refine H.mono ?_
            rintro e w5 ⟨rfl, hw5⟩
            rw [hw5]
            clear hw5 w5 H
            go_wp2
            go_roundw
            case rel => exact ⟨p + 1, [], dn ++ [cur], by omega, by go_num, rfl, by simp, by simp; omega, HA, HZ, R1, hbel⟩
            case measure => simp [intOf]; omega
        · rw [if_neg h32] at hsd
          have HA : Hid (p + 1 ≤ s.size → dn ++ spl (cur ++ [s[p]'hlt]) (s.data.toList.drop (p + 1)) = spl [] s.data.toList) := fun _ => by rw [← HA0.out hle, hsd]
          have HZ : Hid (p + 1 = s.size + 1 → dn = spl [] s.data.toList) := fun h => by omega
          have HBA : Hid (BA cur ++ s.extract p (p + 1) = BA (cur ++ [s[p]'hlt])) := by unfold Hid; rw [HX1.out, BA_app]
          have hez : (s.extract p (p + 1)).size = 1 := by rw [HX1.out]; rfl
          have t32 : (((s[p]'hlt).toNat : Int) == 32) = false := by
            rw [beq_eq_false_iff_ne]
            intro e
            apply h32
            apply UInt8.toNat_inj.1
            show (s[p]'hlt).toNat = 32
            omega
          have hbz : (BA cur).size = cur.length := BA_size cur
          have hq1 : (p : Int) ≤ (p : Int) + 1 := by omega
          have hq2 : (p : Int) + 1 ≤ (s.size : Int) := by omega
          have hq0 : (0 : Int) ≤ (p : Int) := by omega
          have HLE : Hid ((cur ++ [s[p]'hlt]).length ≤ p + 1) := by unfold Hid; rw [List.length_append]; simp; omega
          clear hsd HX1 h32 HA0 HZ0
          generalize hC : cur ++ [s[p]'hlt] = cur2 at *
          clear hC
          generalize hr : ((s[p]'hlt).toNat : Int) = r at *
          generalize hX : s.extract p (p + 1) = X at *
          go_wp2
          go_roundw
          case rel => exact ⟨p + 1, cur2, dn, by omega, by go_num, by rw [← HBA.out], HLE.out, by omega, HA, HZ, hown, hbel⟩
          case measure => simp [intOf]; omega
      · obtain rfl : p = s.size := by omega
        have hge : ¬ (s.size : Int) < (s.size : Int) := by omega
        have hsd := HSE.out cur
        have HA : Hid (s.size + 1 ≤ s.size → (dn ++ [cur]) ++ spl [] (s.data.toList.drop (s.size + 1)) = spl [] s.data.toList) := fun h => by omega
        have HZ : Hid (s.size + 1 = s.size + 1 → dn ++ [cur] = spl [] s.data.toList) := fun _ => by rw [← HA0.out hle, hsd]
        clear hsd HA0 HZ0 hcl0
        have H := HEX.out cur wr hcl
        have HP : Hid (pts ((dn ++ [cur]).map BA) = pts (dn.map BA) ++ pt (BA cur)) := by unfold Hid; rw [List.map_append, List.map_cons, List.map_nil, pts_snoc]
        have hpt : pt (BA cur) = if hexB (BA cur) then [hexN (BA cur)] else [] := rfl
        have hpl := pts_len (dn.map BA)
        rw [List.length_map] at hpl
        have HW : Hid (∀ j, u3.ownBlock = some j → w.heap.size ≤ j) := fun j e => (hown.lt _ e).1
        cases hx : hexB (BA cur) with
        | true =>
          rw [hx, if_pos rfl] at hpt
          rw [hx] at H
          rw [Hid, hpt] at HP
          have HP2 : Hid (pts ((dn ++ [cur]).map BA) = pts (dn.map BA) ++ [hexN (BA cur)]) := HP
          clear HP hpt hx
          generalize hexN (BA cur) = N at *
          generalize pts (dn.map BA) = M at *
          generalize BA cur = B at *
          go_wp2_with fail
          refine H.mono ?_
          rintro e w5 ⟨rfl, hw5⟩
          rw [hw5]
          clear hw5 w5 H
          go_wp2_with (at_builtin; refine wpList_append_own _ rfl _ _ 35 rfl w.heap.size 3 i0 (.int .i64 0) 1 8 Tryz.underlying35 hi hz0 hy1 hz2 rfl (by decide) _ _ _ rfl (hown.alloc _) ⟨wr.heap.size, 0, none⟩ 1 1 [.int .i64 N] rfl rfl ?c1 ?c2 ?c3 ?c4 ?c5 ?_)
          case c1 => exact one_icell wr _ _
          case c2 => intro u hu; simp at hu; subst hu; rfl
          case c3 => unfold maxLen; omega
          case c4 => omega
          case c5 => simp; omega
          intro v' w4 hown4 hgrow _
          have R2 := Below.grown (hbel.alloc hbs (.cells #[.int .i64 N] 3)) hgrow (by simp; omega) HW.out
          have R1 : w4.ownsRow w.heap.size 3 1 v' (pts ((dn ++ [cur]).map BA)).length ((pts ((dn ++ [cur]).map BA)).map (Value.int .i64)) := by
            rw [HP2.out, List.length_append, List.map_append]; exact hown4
          clear hown4 hgrow HP2
          go_wp2
          go_roundw
          case rel => exact ⟨s.size + 1, [], dn ++ [cur], by omega, by go_num, rfl, by simp, by simp; omega, HA, (fun _ => HZ.out trivial), R1, R2⟩
          case measure => first | (simp [intOf]; done) | (simp [intOf]; omega)
        | false =>
          rw [hx, if_neg (by decide)] at hpt
          rw [hx] at H
          have R1 : wr.ownsRow w.heap.size 3 1 u3 (pts ((dn ++ [cur]).map BA)).length ((pts ((dn ++ [cur]).map BA)).map (Value.int .i64)) := by
            rw [HP.out, hpt, List.append_nil]; exact hown
          clear HP hpt hx hown
          generalize hexN (BA cur) = N at *
          generalize BA cur = B at *
          go_wp2_with fail
          refine H.mono ?_
          rintro e w5 ⟨rfl, hw5⟩
          rw [hw5]
          clear hw5 w5 H
          go_wp2
          go_roundw
          case rel => exact ⟨s.size + 1, [], dn ++ [cur], by omega, by go_num, rfl, by simp, by simp; omega, HA, (fun _ => HZ.out trivial), R1, hbel⟩
          case measure => first | (simp [intOf]; done) | (simp [intOf]; omega)
    · obtain rfl : p = s.size + 1 := by omega
      have hge : ¬ ((s.size + 1 : Nat) : Int) ≤ (s.size : Int) := by omega
      have HD := HZ0.out rfl
      have HR : Hid (IOwn wr w.heap.size u3 (pts ((spl [] s.data.toList).map BA))) := by rw [← HD]; exact hown
      obtain ⟨ua, uc, rfl⟩ := own_slice hown
      clear hown HD HA0 HZ0
      generalize (pts (dn.map BA)).length = ml at *
      go_wp2
      go_ret
      exact ⟨_, rfl, HR.out, hbel⟩
end Go.Proofs.YtlidgjkipbijlaaGreatDoor.prp
end

section
/- The document's side: what a file says of a code point. -/
set_option linter.unusedVariables false
set_option linter.unusedSimpArgs false
namespace Go.Proofs.YtlidgjkipbijlaaGreatDoor.prp
open Go.RowKit Go.Maps lin

theorem first_drop {l : List RL} {k : Nat} {x : RL} (h : l[k]? = some x) (r : Int) : firstR (l.drop k) r = if inR x r then some x else firstR (l.drop (k + 1)) r := by
  have hk := (List.getElem?_eq_some_iff.1 h).1
  rw [List.drop_eq_getElem_cons hk, (List.getElem?_eq_some_iff.1 h).2, first_cons]
set_option maxHeartbeats 1000000 in
set_option maxRecDepth 1000000 in
theorem field_any (v : Value) (l : List RL) (r : Int) (w : World) (h : View w v (l.map recOf)) (h0 : 0 < l.length) (hn : l.length ≤ 1000) :
    Calls Tryz.prog 109 #[v, .int .i64 r] w fun e w' => ((∃ x g o c, firstR l r = some x ∧ e = .returned (.slice (some ⟨g, o, none⟩) x.2.2.length c) ∧ ∀ (j : Nat) f, x.2.2[j]? = some f → w'.cell? ⟨g, o + j, none⟩ = some (.string (BA f))) ∨ (firstR l r = none ∧ e = .returned (.slice none 0 0))) ∧ Below w.heap.size w w' := by
  obtain ⟨rb, ro, rc, rfl, hrec⟩ := view_recs h h0
  have HREC : Hid (∀ (i : Nat) (r : RL), l[i]? = some r → ∃ g o2 c2, RecM w rb (ro + i * 3) r g o2 c2) := hrec
  have HD : Hid (∀ (k : Nat) (x : RL), l[k]? = some x → firstR (l.drop k) r = if inR x r then some x else firstR (l.drop (k + 1)) r) := fun k x hx => first_drop hx r
  have HL : Hid (firstR (l.drop l.length) r = none) := by unfold Hid; rw [List.drop_length]; rfl
  clear h hrec
  go_enter Tryz.func109, Tryz.ntmps109
  go_wp2
  go_loopw [9] (fun i wr => ∃ k : Nat, k ≤ l.length ∧ i = .int .i64 k ∧ Hid (firstR l r = firstR (l.drop k) r) ∧ Below w.heap.size w wr) (fun i _ => l.length - (RowKit.intOf i).toNat)
  case atStart => exact ⟨0, Nat.zero_le _, rfl, rfl, Below.refl _ w⟩
  case round =>
    obtain ⟨k, hk, rfl, HF, hbel⟩ := hrel
    by_cases hlt : k < l.length
    · have hlt' : (k : Int) < (l.length : Int) := by omega
      obtain ⟨x, hx⟩ : ∃ x, l[k]? = some x := ⟨_, List.getElem?_eq_getElem hlt⟩
      obtain ⟨fg, fo, fc, hrm0⟩ := HREC.out k x hx
      have hrm := hrm0.below hbel
      have HN := HD.out k x hx
      have q0 := hrm.lo
      have q1 := hrm.hi
      have q2 := hrm.fv
      have HFS : Hid (∀ (j : Nat) f, x.2.2[j]? = some f → wr.cell? ⟨fg, fo + j, none⟩ = some (.string (BA f))) := hrm.fs
      have hbs := hbel.size
      have hin : inR x r = (decide (x.1 ≤ r) && decide (r ≤ x.2.1)) := rfl
      clear hrm hrm0 hx
      by_cases c1 : x.1 ≤ r
      · by_cases c2 : r ≤ x.2.1
        · have HX : Hid (firstR l r = some x) := by
            unfold Hid; rw [HF.out, HN, hin, decide_eq_true c1, decide_eq_true c2]; rfl
          clear HN hin HF
          generalize hL3 : x.2.2.length = n3 at *
          have HFS2 : Hid (∀ W, Below wr.heap.size wr W → ∀ (j : Nat) f, x.2.2[j]? = some f → W.cell? ⟨fg, fo + j, none⟩ = some (.string (BA f))) := fun W hb j f hf => (hb.cell (p := ⟨fg, fo + j, none⟩) (World.block_lt_of_cell? wr _ (HFS.out j f hf))).trans (HFS.out j f hf)
          have HLN : Hid (n3 = x.2.2.length) := hL3.symm
          clear HFS hL3
          go_wp2
          go_ret
          refine ⟨.inl ⟨x, fg, fo, fc, HX.out, by rw [HLN.out]; rfl, HFS2.out _ ((Below.refl _ wr).alloc (Nat.le_refl _) _)⟩, hbel.alloc hbs _⟩
        · have HX : Hid (firstR l r = firstR (l.drop (k + 1)) r) := by
            unfold Hid; rw [HF.out, HN, hin, decide_eq_false c2, Bool.and_false, if_neg (by decide)]
          clear HN hin HF HFS
          go_wp2
          exact ⟨⟨k + 1, by omega, by go_num, HX, hbel.alloc hbs _⟩, by simp [intOf]; omega⟩
      · have HX : Hid (firstR l r = firstR (l.drop (k + 1)) r) := by
          unfold Hid; rw [HF.out, HN, hin, decide_eq_false c1, Bool.false_and, if_neg (by decide)]
        clear HN hin HF HFS
        go_wp2
        exact ⟨⟨k + 1, by omega, by go_num, HX, hbel.alloc hbs _⟩, by simp [intOf]; omega⟩
    · have hge : ¬ (k : Int) < (l.length : Int) := by omega
      obtain rfl : k = l.length := by omega
      have HX : Hid (firstR l r = none) := by unfold Hid; rw [HF.out, HL.out]
      clear HF
      go_wp2
      go_ret
      exact ⟨.inr ⟨HX.out, rfl⟩, hbel⟩
set_option maxHeartbeats 1000000 in
set_option maxRecDepth 1000000 in
theorem or_any (v : Value) (l : List RL) (r : Int) (other : List UInt8) (w : World) (h : View w v (l.map recOf)) (h0 : 0 < l.length) (hn : l.length ≤ 1000) (hf : ∀ x ∈ l, 0 < x.2.2.length) :
    Calls Tryz.prog 85 #[v, .int .i64 r, .string (BA other)] w fun e w' => e = .returned (.string (BA (orF l r other))) ∧ Below w.heap.size w w' := by
  have C := field_any v l r w h h0 hn
  have HP : Hid (∀ x, firstR l r = some x → ∃ f, x.2.2[0]? = some f ∧ orF l r other = f ∧ (0 : Int) < (x.2.2.length : Int)) := fun x hx => by
    have hl := hf x (first_mem hx).1
    refine ⟨_, List.getElem?_eq_getElem hl, ?_, by omega⟩
    unfold orF
    rw [hx, Option.map_some, Option.getD_some, List.getD_eq_getElem?_getD, List.getElem?_eq_getElem hl, Option.getD_some]
  have HN : Hid (firstR l r = none → BA (orF l r other) = BA other) := fun hx => by unfold orF; rw [hx]; rfl
  obtain ⟨va, vc, rfl, _⟩ := id h
  clear h hf
  generalize orF l r other = F at *
  generalize (l.map recOf).length = ln at *
  generalize BA other = ob at *
  go_enter Tryz.func85, Tryz.ntmps85
  go_wp2_with fail
  refine C.mono ?_
  rintro e w1 ⟨⟨x, g, o, c, hx, rfl, hc⟩ | ⟨hx, rfl⟩, hb⟩
  · clear C
    obtain ⟨f, h1, h2, h3⟩ := HP.out x hx
    have q := hc 0 f h1
    rw [Nat.add_zero] at q
    have h4 : ((x.2.2.length : Int) == 0) = false := by rw [beq_eq_false_iff_ne]; omega
    have HF2 : Hid (F = f) := h2
    clear hc h1 h2 hx HP HN
    generalize x.2.2.length = n3 at *
    go_wp2
    go_ret
    exact ⟨by rw [HF2.out]; rfl, hb⟩
  · clear C
    have HF2 : Hid (BA F = ob) := HN.out hx
    clear HP HN hx
    go_wp2
    go_ret
    exact ⟨by rw [HF2.out]; rfl, hb⟩
end Go.Proofs.YtlidgjkipbijlaaGreatDoor.prp
end

section
/- The document's tables in memory. -/
set_option linter.unusedVariables false
set_option linter.unusedSimpArgs false
namespace Go.Proofs.YtlidgjkipbijlaaGreatDoor.prp
open Go.RowKit Go.Maps lin

/-- v is a slice of lists of numbers, a row of its own from base on. -/
def LsAt (w : World) (base : Nat) (v : Value) (xss : List (List Int)) : Prop :=
  ∃ L : List (Value × List Int), L.map (·.2) = xss ∧ w.ownsRow base 35 1 v L.length (L.map (·.1)) ∧ ∀ q ∈ L, IOwn w base q.1 q.2
theorem iown_turnsT {D : Nat → Prop} {A B : World} {base : Nat} {v : Value} {xs : List Int} (t : TypeId) (ht : t ≠ 3) (h : IOwn A base v xs) (tt : Turns D A B) (hd : ∀ k, D k → k < base ∨ (∃ cur, A.heap[k]? = some (.cells cur t (0, 0)))) : IOwn B base v xs :=
  tt.own h (fun k e d => by
    obtain ⟨cur, hc⟩ := own_typed h k e
    rcases hd k d with hh | ⟨cur', hh⟩
    · have := (h.lt k e).1; omega
    · rw [hc] at hh; cases hh; exact ht rfl)
theorem LsAt.turns {D : Nat → Prop} {A B : World} {base : Nat} {v : Value} {xss : List (List Int)} (h : LsAt A base v xss) (t : Turns D A B) (hd : ∀ k, D k → k < base) : LsAt B base v xss := by
  obtain ⟨L, hL, ho, hf⟩ := h
  exact ⟨L, hL, t.own ho (fun k e d => by have := (ho.lt k e).1; have := hd k d; omega), fun q hq => iown_turnsT 35 (by decide) (hf q hq) t (fun k d => .inl (hd k d))⟩
theorem LsAt.nil (w : World) (base : Nat) : LsAt w base (.slice none 0 0) [] := ⟨[], rfl, World.ownsRow_nil _ _ _ _, fun _ h => by cases h⟩
theorem LsAt.push {A B : World} {base : Nat} {v v' : Value} {L : List (Value × List Int)} {fv : Value} {fs : List Int} (hf : ∀ q ∈ L, IOwn A base q.1 q.2) (ho : A.ownsRow base 35 1 v L.length (L.map (·.1))) (hF : IOwn A base fv fs) (hgrow : A.grownBy B v.ownBlock)
    (hown : B.ownsRow base 35 1 v' (L.length + 1) (L.map (·.1) ++ [fv])) : LsAt B base v' (L.map (·.2) ++ [fs]) := by
  have t : Turns (fun k => ∃ cur, A.heap[k]? = some (.cells cur 35 (0, 0))) A B := .of_grown hgrow (own_typed ho)
  refine ⟨L ++ [(fv, fs)], by rw [List.map_append]; rfl, by rw [List.length_append, List.map_append]; exact hown, fun q hq => ?_⟩
  rcases List.mem_append.1 hq with hq | hq
  · exact iown_turnsT 35 (by decide) (hf q hq) t (fun k d => .inr d)
  · obtain rfl := List.mem_singleton.1 hq
    exact iown_turnsT 35 (by decide) hF t (fun k d => .inr d)
/-- A slice of lists of numbers, as it is read. -/
def LV (w : World) (v : Value) (xss : List (List Int)) : Prop := ∃ b c, v = .slice (some ⟨b, 0, none⟩) xss.length c ∧ ∀ (j : Nat) xs, xss[j]? = some xs → ∃ u, w.cell? ⟨b, j, none⟩ = some u ∧ IV w u xs
theorem LsAt.lv {w : World} {base : Nat} {v : Value} {xss : List (List Int)} (h : LsAt w base v xss) (h0 : 0 < xss.length) : LV w v xss := by
  obtain ⟨L, hL, ho, hf⟩ := h
  have hl : L.length = xss.length := by rw [← hL, List.length_map]
  rcases ho.2 with hn | ⟨g, cap, cur, rfl, hg, hgg, h3, h4, h5, h6⟩
  · obtain ⟨_, hz⟩ := hn; omega
  · refine ⟨g, cap, by rw [hl], fun j xs hj => ?_⟩
    rw [← hL, List.getElem?_map] at hj
    cases hq : L[j]? with
    | none => rw [hq] at hj; cases hj
    | some q =>
      rw [hq] at hj
      cases hj
      refine ⟨q.1, ?_, (hf q (List.mem_of_getElem? hq)).iv⟩
      have hjl := (List.getElem?_eq_some_iff.1 hq).1
      rw [cell_of_row w g j cur _ _ hgg, ← Array.getElem?_toList, ← List.getElem?_take_of_lt (show j < L.length * 1 by omega), h6, List.getElem?_map, hq]
      rfl
theorem LV.below {w w' : World} {v : Value} {xss : List (List Int)} (h : LV w v xss) (hb : Below w.heap.size w w') : LV w' v xss := by
  obtain ⟨b, c, rfl, hc⟩ := h
  refine ⟨b, c, rfl, fun j xs hj => ?_⟩
  obtain ⟨u, h1, h2⟩ := hc j xs hj
  exact ⟨u, (hb.cell (p := ⟨b, j, none⟩) (World.block_lt_of_cell? w _ h1)).trans h1, h2.below hb⟩
def RecTab (w : World) (t i : Nat) (l : List RL) : Prop := ∃ v, w.cell? ⟨t, i, none⟩ = some v ∧ View w v (l.map recOf)
def LstTab (w : World) (t i : Nat) (xss : List (List Int)) : Prop := ∃ v, w.cell? ⟨t, i, none⟩ = some v ∧ LV w v xss
theorem RecTab.below {w w' : World} {t i : Nat} {l : List RL} (h : RecTab w t i l) (hb : Below w.heap.size w w') : RecTab w' t i l := by
  obtain ⟨v, h1, h2⟩ := h
  exact ⟨v, (hb.cell (p := ⟨t, i, none⟩) (World.block_lt_of_cell? w _ h1)).trans h1, h2.below hb (Nat.le_refl _)⟩
theorem LstTab.below {w w' : World} {t i : Nat} {xss : List (List Int)} (h : LstTab w t i xss) (hb : Below w.heap.size w w') : LstTab w' t i xss := by
  obtain ⟨v, h1, h2⟩ := h
  exact ⟨v, (hb.cell (p := ⟨t, i, none⟩) (World.block_lt_of_cell? w _ h1)).trans h1, h2.below hb⟩
def decR : List (List Int) := decL.map (fun x => rcp x 0)
def folR : List (List Int) := folL.map (fun x => rcp x 1)
/-- In block t lie the document's tables. -/
structure RTabs (w : World) (t : Nat) : Prop where
  cat : RecTab w t 0 catL
  com : RecTab w t 1 comL
  clu : RecTab w t 2 cluL
  wor : RecTab w t 3 worL
  scr : RecTab w t 4 scrL
  dec : RecTab w t 5 decL
  fol : RecTab w t 6 folL
  par : LstTab w t 7 decR
  fds : LstTab w t 8 folR
theorem RTabs.below {w w' : World} {t : Nat} (h : RTabs w t) (hb : Below w.heap.size w w') : RTabs w' t :=
  ⟨h.cat.below hb, h.com.below hb, h.clu.below hb, h.wor.below hb, h.scr.below hb, h.dec.below hb, h.fol.below hb, h.par.below hb, h.fds.below hb⟩
theorem com_ok : 0 < comL.length ∧ comL.length ≤ 1000 ∧ ∀ x ∈ comL, 0 < x.2.2.length := by decide +kernel
theorem dec_ok : 0 < decL.length ∧ decL.length ≤ 1000 ∧ ∀ x ∈ decL, 0 < x.2.2.length ∧ (x.2.2.getD 0 []).length ≤ 1000 := by decide +kernel
theorem fol_ok : 0 < folL.length ∧ folL.length ≤ 1000 ∧ ∀ x ∈ folL, 1 < x.2.2.length ∧ (x.2.2.getD 1 []).length ≤ 1000 := by decide +kernel
end Go.Proofs.YtlidgjkipbijlaaGreatDoor.prp
end

section
/- A round of the document's Load: a list of numbers more. -/
set_option linter.unusedVariables false
set_option linter.unusedSimpArgs false
namespace Go.Proofs.YtlidgjkipbijlaaGreatDoor.prp
open Go.RowKit Go.Maps lin

/-- In block T lies the struct vs. -/
def TB (w : World) (T : Nat) (vs : Array Value) : Prop := w.heap[T]? = some (.cells vs 79 (0, 0))
theorem TB.cell {w : World} {T : Nat} {vs : Array Value} (h : TB w T vs) (i : Nat) : w.cell? ⟨T, i, none⟩ = vs[i]? := cell_of_row w T i vs _ _ h
theorem TB.frozen {w : World} {T : Nat} {vs : Array Value} (h : TB w T vs) (i : Nat) : w.frozen? ⟨T, i, none⟩ = false := by
  unfold TB at h
  simp [World.frozen?, h]
theorem TB.set {w : World} {T : Nat} {vs : Array Value} (h : TB w T vs) (i : Nat) (v : Value) : TB (w.setCell ⟨T, i, none⟩ v) T (vs.setIfInBounds i v) := heap_setCell_same w T i vs _ v h
theorem TB.lt {w : World} {T : Nat} {vs : Array Value} (h : TB w T vs) : T < w.heap.size := (Array.getElem?_eq_some_iff.1 h).1
theorem turns_set (w : World) (T i : Nat) (v : Value) : Turns (fun k => k = T) w (w.setCell ⟨T, i, none⟩ v) := ⟨rfl, rfl, rfl, by simp, fun k _ hk => heap_setCell_other _ _ _ _ (fun e => hk e)⟩
theorem load_step (w0 wr w5 W W' : World) (T B i k : Nat) (vs : Array Value) (ua : Option Addr) (uc : Nat) (L : List (Value × List Int)) (rec : Obj) (cv : Value) (xs : List Int) (g cap : Nat)
    (hT : T = w0.heap.size) (hB : T + 1 ≤ B) (hB2 : B ≤ wr.heap.size + 1) (hlow : Below w0.heap.size w0 wr) (hTB : TB wr T vs) (hvi : vs[i]? = some (.slice ua k uc))
    (hown : wr.ownsRow B 35 1 (.slice ua k uc) L.length (L.map (·.1))) (hf : ∀ q ∈ L, IOwn wr B q.1 q.2)
    (hb5 : Below (wr.heap.size + 1) (wr.alloc rec) w5) (hcv : IOwn w5 (wr.heap.size + 1) cv xs)
    (bW : Below w5.heap.size w5 W)
    (how : W'.ownsRow B 35 1 (.slice (some ⟨g, 0, none⟩) (L.length + 1) cap) (L.length + 1) (L.map (·.1) ++ [cv]))
    (hgr : W.grownBy W' (Value.slice ua k uc).ownBlock) :
    (∀ b, b < T ∨ b = wr.heap.size → W'.heap[b]? = (wr.alloc rec).heap[b]?) ∧ W'.cell? ⟨T, i, none⟩ = some (.slice ua k uc) ∧ W'.frozen? ⟨T, i, none⟩ = false ∧
    TB (W'.setCell ⟨T, i, none⟩ (.slice (some ⟨g, 0, none⟩) (L.length + 1) cap)) T (vs.setIfInBounds i (.slice (some ⟨g, 0, none⟩) (L.length + 1) cap)) ∧
    LsAt (W'.setCell ⟨T, i, none⟩ (.slice (some ⟨g, 0, none⟩) (L.length + 1) cap)) B (.slice (some ⟨g, 0, none⟩) (L.length + 1) cap) (L.map (·.2) ++ [xs]) ∧
    Below w0.heap.size w0 (W'.setCell ⟨T, i, none⟩ (.slice (some ⟨g, 0, none⟩) (L.length + 1) cap)) ∧
    (∀ v xss, LsAt wr (T + 1) v xss → (∀ b, v.ownBlock = some b → b < B) → LsAt (W'.setCell ⟨T, i, none⟩ (.slice (some ⟨g, 0, none⟩) (L.length + 1) cap)) (T + 1) v xss) ∧ wr.heap.size ≤ (W'.setCell ⟨T, i, none⟩ (.slice (some ⟨g, 0, none⟩) (L.length + 1) cap)).heap.size := by
  have hlt := hTB.lt
  have hrow : ∀ j, (Value.slice ua k uc).ownBlock = some j → B ≤ j ∧ j < wr.heap.size := fun j e => hown.lt j e
  have hsz1 : (wr.alloc rec).heap.size = wr.heap.size + 1 := World.size_alloc _ _
  have b1 : Below wr.heap.size wr (wr.alloc rec) := (Below.refl _ wr).alloc (Nat.le_refl _) _
  have b15 : Below (wr.alloc rec).heap.size (wr.alloc rec) w5 := by rw [hsz1]; exact hb5
  have bW1 : Below (wr.alloc rec).heap.size (wr.alloc rec) W := b15.trans (bW.mono b15.size)
  have bWr : Below wr.heap.size wr W := b1.trans (bW1.mono b1.size)
  have t1 : Turns (fun k' => (Value.slice ua k uc).ownBlock = some k') (wr.alloc rec) W' := (Turns.of_below bW1).trans (.of_grown hgr (fun k e => e))
  have tw : Turns (fun k' => (Value.slice ua k uc).ownBlock = some k') wr W' := (Turns.of_below bWr).trans (.of_grown hgr (fun k e => e))
  have hTB' : TB W' T vs := (tw.block T hlt (fun e => by have := (hrow _ e).1; omega)).trans hTB
  have hz5 := b15.size
  have hls : LsAt W' B (.slice (some ⟨g, 0, none⟩) (L.length + 1) cap) (L.map (·.2) ++ [xs]) :=
    LsAt.push (A := W) (fun q hq => (hf q hq).below bWr) (own_below hown bWr) (own_lower (IOwn.below hcv bW) (by omega)) hgr how
  have ts := turns_set W' T i (.slice (some ⟨g, 0, none⟩) (L.length + 1) cap)
  refine ⟨fun b hb => t1.block b (by rw [hsz1]; omega) (fun e => by have := hrow b e; omega), by rw [hTB'.cell]; exact hvi, hTB'.frozen i, hTB'.set i _, hls.turns ts (fun k e => by omega), ?_, fun v xss hv hne => ?_, Nat.le_trans tw.size ts.size⟩
  · have : Below w0.heap.size wr W' := tw.below hlow.size (fun k e => by have := (hrow k e).1; omega)
    exact (hlow.trans this).trans (ts.below (by have := this.size; have := hlow.size; omega) (fun k e => by omega))
  · obtain ⟨M, hM, ho, hfM⟩ := hv
    have hty : ∀ j, (Value.slice ua k uc).ownBlock = some j → ∃ cur, wr.heap[j]? = some (.cells cur 35 (0, 0)) := own_typed hown
    have h1 : LsAt W' (T + 1) v xss := ⟨M, hM, tw.own ho (fun b e d => by have := hne b e; have := (hrow b d).1; omega), fun q hq => iown_turnsT 35 (by decide) (hfM q hq) tw (fun k d => .inr (hty k d))⟩
    exact h1.turns ts (fun k e => by omega)
end Go.Proofs.YtlidgjkipbijlaaGreatDoor.prp
end
