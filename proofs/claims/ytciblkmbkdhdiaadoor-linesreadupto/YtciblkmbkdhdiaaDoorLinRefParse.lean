/- What the document's Parse answers of any text: the same as lines.Parse. -/
import Derived.Test.YtciblkmbkdhdiaaDoorLinRefRecord
import Derived.Test.YtciblkmbkdhdiaaDoorLinesApart
set_option linter.unusedVariables false
set_option linter.unusedSimpArgs false
namespace Go.Proofs.YtciblkmbkdhdiaaDoor.lin
open Go.RowKit

theorem Recs.push {A B : World} {base : Nat} {v v' : Value} {L : List RR} {lo hi : Int} {fv : Value} {fs : List ByteArray} (hf : ∀ q ∈ L, FAt A base q.fv q.fs) (ho : A.ownsRow base 42 3 v L.length (flatR L)) (hF : FAt A base fv fs) (hgrow : A.grownBy B v.ownBlock)
    (hown : B.ownsRow base 42 3 v' (L.length + 1) (flatR L ++ [.int .i64 lo, .int .i64 hi, fv])) : Recs B base v' (L.map RR.plain ++ [(lo, hi, fs)]) := by
  have t : Turns (fun k => ∃ cur, A.heap[k]? = some (.cells cur 42 (0, 0))) A B := .of_grown hgrow (own_typed ho)
  refine ⟨L ++ [⟨lo, hi, fv, fs⟩], by rw [List.map_append]; rfl, by rw [List.length_append, flatR_append]; exact hown, fun q hq => ?_⟩
  rcases List.mem_append.1 hq with hq | hq
  · exact (hf q hq).turns t (fun k d => .inr d)
  · obtain rfl := List.mem_singleton.1 hq
    exact hF.turns t (fun k d => .inr d)
theorem FAt.kept {A B : World} {base : Nat} {v : Value} {fs : List ByteArray} (h : FAt A base v fs) (hb : Below A.heap.size A B) : FAt B base v fs := h.turns (D := fun _ => False) (.of_below hb) (fun _ h => h.elim)

set_option maxHeartbeats 4000000 in
set_option maxRecDepth 100000 in
theorem rparse_any (s : ByteArray) (w : World) (hs : s.size ≤ 1073741824) :
    Calls Tryd.prog 10 #[.string s] w fun e w' => ∃ v, e = .returned (.tuple #[v, .int .i64 (parseV s).2.1, .int .i64 (parseV s).2.2]) ∧ Recs w' w.heap.size v (parseV s).1 ∧ Below w.heap.size w w' := by
  obtain ⟨i0, hi, hz0, hy1, hz2⟩ := info_parts infoRec3
  have RC := rcut_any s 10 w (by omega)
  go_enter Tryd.func10, Tryd.ntmps10
  go_wp2_with fail
  refine RC.mono ?_
  rintro e w1 ⟨v, rfl, hown, b1⟩
  obtain ⟨a, c, rfl, hrow⟩ := strRow hown
  have hpos : 0 < (cutV s ((10 : Nat) : Int)).length := (cutV_head s 10).2
  obtain ⟨g, rfl, _, hg, _, _, _, hcell⟩ := hrow hpos
  have HC : Hid (∀ (i : Nat) (x : ByteArray), (cutV s 10)[i]? = some x → w1.cell? ⟨g, i, none⟩ = some (.string x)) := hcell
  have HN : Hid (∀ i, i < (cutV s 10).length → ∃ x, (cutV s 10)[i]? = some x ∧ (cutV s 10).take (i + 1) = (cutV s 10).take i ++ [x] ∧ cutV s 10 = (cutV s 10).take i ++ x :: (cutV s 10).drop (i + 1)) := fun i h => ⟨_, List.getElem?_eq_getElem h, by rw [List.take_add_one, List.getElem?_eq_getElem h]; rfl, by rw [← List.drop_eq_getElem_cons h, List.take_append_drop]⟩
  have HSZ : Hid (∀ x ∈ cutV s 10, x.size ≤ s.size) := fun x hx => cuts_size _ _ _ _ _ x hx
  have HPA : Hid ((∀ x ∈ cutV s 10, lineOk x = true) → parseV s = (recsOf (cutV s 10), 0, 0)) := fun h => parseV_ok h
  have HPB : Hid (∀ p x rest, cutV s 10 = p ++ x :: rest → (∀ y ∈ p, lineOk y = true) → lineOk x = false → parseV s = ([], p.length + 1, 20)) := fun p x rest h1 h2 h3 => parseV_bad h1 h2 h3
  have hcl := cutV_len2 s 10
  have e10 : cutV s ((10 : Nat) : Int) = cutV s 10 := rfl
  rw [e10]
  clear e10 hrow hcell hpos hown RC
  generalize cutV s 10 = cs at *
  go_wp2
  go_loopw [5, 14] (fun v i wr => ∃ k : Nat, k ≤ cs.length ∧ i = .int .i64 k ∧ Hid (∀ y ∈ cs.take k, lineOk y = true) ∧ Hid (Recs wr w1.heap.size v (recsOf (cs.take k))) ∧ Below w1.heap.size w1 wr) (fun _ i _ => cs.length - (RowKit.intOf i).toNat)
  case atStart => exact ⟨0, Nat.zero_le _, rfl, fun y hy => (by simp at hy), Recs.nil _ _, Below.refl _ _⟩
  case round =>
    obtain ⟨k, hk, rfl, HOK, HR, hbel⟩ := hrel
    by_cases hlt : k < cs.length
    · obtain ⟨x, hx, htk, hsp⟩ := HN.out k hlt
      have hlt' : (k : Int) < (cs.length : Int) := by omega
      have cx : wr.cell? ⟨g, k, none⟩ = some (.string x) := (hbel.cell (p := ⟨g, k, none⟩) hg).trans (HC.out k x hx)
      have hxs := HSZ.out x (List.mem_of_getElem? hx)
      have RF := rfields_any x wr (by omega)
      have HTK : Hid (cs.take (k + 1) = cs.take k ++ [x]) := htk
      have HSP : Hid (cs = cs.take k ++ x :: cs.drop (k + 1)) := hsp
      have hlk : (cs.take k).length = k := by rw [List.length_take]; omega
      have HLK : Hid ((cs.take k).length = k) := hlk
      have hrl := recsOf_len (cs.take k)
      rw [hlk] at hrl
      have hbs := hbel.size
      clear htk hx hsp hlk
      go_wp2_with fail
      refine RF.mono ?_
      rintro e w2 ⟨fv, rfl, hown, b2⟩
      clear RF cx
      have b12 := hbel.trans (b2.mono hbs)
      have hs2 := b2.size
      have HR2 : Hid (Recs w2 w1.heap.size u5 (recsOf (cs.take k))) := HR.out.kept b2
      have hfl := fields_len x
      have hsf := fields_sizes x
      have HLR : Hid (recsOf (cs.take (k + 1)) = recsOf (cs.take k) ++ lineRecs x) := by rw [Hid, HTK.out, recsOf_snoc]
      cases hfs : fieldsV x with
      | nil =>
        rw [hfs] at hown
        obtain ⟨sa, sc, rfl⟩ := own_slice hown
        have R2 : Hid (Recs w2 w1.heap.size u5 (recsOf (cs.take (k + 1)))) := by
          rw [Hid, HLR.out, show lineRecs x = [] from by unfold lineRecs; rw [hfs]; rfl, List.append_nil]; exact HR2.out
        have R1 : Hid (∀ y ∈ cs.take (k + 1), lineOk y = true) := by
          intro y hy
          rw [HTK.out] at hy
          rcases List.mem_append.1 hy with hy | hy
          · exact HOK.out y hy
          · obtain rfl := List.mem_singleton.1 hy
            unfold lineOk; rw [hfs]; rfl
        clear hown HR HR2 HOK
        go_wp2
        go_roundw
        case rel => exact ⟨k + 1, by omega, by go_num, R1, R2, b12⟩
        case measure => simp [RowKit.intOf]; omega
      | cons f fs =>
        rw [hfs] at hown hfl hsf
        obtain ⟨fa, fc, rfl, hfrow⟩ := strRow hown
        obtain ⟨g2, rfl, _, hg2, hfc1, hfc2, _, hfcell⟩ := hfrow (by simp)
        have hf0 := hfcell 0 f rfl
        have hff : f.size ≤ 1073741824 := by have := hsf f (by simp); omega
        have hlf : fs.length ≤ 1073741825 := by simp at hfl; omega
        have RR0 := rrecord_any f fs g2 fc w2 hf0 (fun i y hy => hfcell (i + 1) y (by simpa using hy)) hff (by simpa using hfc1) hfc2 (by omega)
        clear hown hfrow hfcell hf0 HR
        go_wp2_with fail
        refine RR0.mono ?_
        rintro e w3 ⟨fv, rfl, hF, b3⟩
        clear RR0
        have b13 := b12.trans (b3.mono b12.size)
        have hs3 := b3.size
        have HR3 : Hid (Recs w3 w1.heap.size u5 (recsOf (cs.take k))) := HR2.out.kept b3
        clear HR2
        cases hrb : recB (f :: fs) with
        | false =>
          have HV : Hid (parseV s = ([], k + 1, 20)) := by
            have h := HPB.out _ x _ HSP.out HOK.out (by unfold lineOk; rw [hfs, hrb]; rfl)
            rw [HLK.out] at h
            exact h
          clear hF HR3 HOK HLR HTK HSP hfl hsf
          go_wp2
          go_ret3
          refine ⟨.slice none 0 0, by rw [HV.out]; rfl, by rw [HV.out]; exact Recs.nil _ _, (b1.trans (b13.mono b1.size)).alloc (by omega) _⟩
        | true =>
          have hF' := (hF hrb).lower (base := w1.heap.size) (by omega)
          obtain ⟨L, hL, ho, hf⟩ := HR3.out
          have hLl : L.length ≤ k := by
            have := congrArg List.length hL
            rw [List.length_map] at this
            omega
          have HW : Hid (∀ j, u5.ownBlock = some j → w1.heap.size ≤ j) := fun j e => (ho.lt _ e).1
          have HF : Hid (FAt w3 w1.heap.size fv fs) := hF'
          have HFF : Hid (∀ q ∈ L, FAt w3 w1.heap.size q.fv q.fs) := hf
          have HL : Hid (L.map RR.plain = recsOf (cs.take k)) := hL
          have HO3 : Hid (w3.ownsRow w1.heap.size 42 3 u5 L.length (flatR L)) := ho
          have R1 : Hid (∀ y ∈ cs.take (k + 1), lineOk y = true) := by
            intro y hy
            rw [HTK.out] at hy
            rcases List.mem_append.1 hy with hy | hy
            · exact HOK.out y hy
            · obtain rfl := List.mem_singleton.1 hy
              unfold lineOk; rw [hfs, hrb]; rfl
          have HLX : Hid (lineRecs x = [(boundsLo f, boundsHi f, fs)]) := by
            unfold Hid lineRecs; rw [hfs]; rfl
          obtain ⟨ua, uc, rfl⟩ := own_slice ho
          obtain ⟨fg, fo, fc', fcur, rfl, _⟩ := hF'
          clear hF HR3 HOK HTK HSP hfl hsf hL ho hf hrl hfs
          generalize boundsLo f = lo at *
          generalize boundsHi f = hi2 at *
          go_wp2_with (at_builtin; refine wpList_append_own _ rfl _ _ 22 rfl w1.heap.size 42 i0 (.agg #[.int .i64 0, .int .i64 0, .slice none 0 0]) 3 40 Tryd.underlying22 hi hz0 hy1 hz2 rfl (by decide) _ _ _ rfl ((HO3.out.alloc _).alloc _) ⟨w3.heap.size + 1, 0, none⟩ 1 1 [.int .i64 lo, .int .i64 hi2, .slice (some ⟨fg, fo, none⟩) fs.length fc'] rfl rfl (cell3_new _ _ (by simp) _ _ _ _) (by simp [Value.oneCell']) (by unfold maxLen; omega) (by omega) (by simp; omega) ?_)
          intro v' w4 hown4 hgrow _
          have al : ∀ x y, Below w3.heap.size w3 ((w3.alloc x).alloc y) := fun x y => ((Below.refl _ w3).alloc (Nat.le_refl _) _).alloc (by simp) _
          have R2 : Hid (Recs w4 w1.heap.size v' (recsOf (cs.take (k + 1)))) := by
            rw [Hid, HLR.out, HLX.out, ← HL.out]
            exact Recs.push (fun q hq => (HFF.out q hq).kept (al _ _)) ((HO3.out.alloc _).alloc _) (HF.out.kept (al _ _)) hgrow hown4
          have R3 : Below w1.heap.size w1 w4 := (b13.trans ((al _ _).mono (by omega))).grown hgrow (by have := (al (.cells #[.int .i64 lo, .int .i64 hi2, .slice (some ⟨fg, fo, none⟩) fs.length fc'] 42) (.cells #[.int .i64 lo, .int .i64 hi2, .slice (some ⟨fg, fo, none⟩) fs.length fc'] 42)).size; omega) HW.out
          clear hown4 hgrow HO3 HFF HF HLR HLX HL al
          go_wp2
          go_roundw
          case rel => exact ⟨k + 1, by omega, by go_num, R1, R2, R3⟩
          case measure => simp [RowKit.intOf]; omega
    · obtain rfl : k = cs.length := by omega
      rw [List.take_length] at HOK HR
      have HV : Hid (parseV s = (recsOf cs, 0, 0)) := HPA.out HOK.out
      have b3 := b1.trans (hbel.mono b1.size)
      have HRL : Hid (Recs wr w.heap.size u5 (recsOf cs)) := HR.out.lower b1.size
      go_wp2
      go_ret3
      exact ⟨u5, by rw [HV.out]; rfl, by rw [HV.out]; exact HRL.out, b3⟩
end Go.Proofs.YtciblkmbkdhdiaaDoor.lin
