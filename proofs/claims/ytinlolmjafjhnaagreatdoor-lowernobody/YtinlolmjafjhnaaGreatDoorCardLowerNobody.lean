/- For every node and all options the call LowerNobody(n, o) returns true: Lower of tables that no call made answers ErrNil and an empty node. -/
import Derived.Test.YtinlolmjafjhnaaGreatDoorCards
import Derived.Test.YtinlolmjafjhnaaGreatDoorTie
import Derived.Test.YtinlolmjafjhnaaGreatDoorBdLow3
import Derived.Test.YtinlolmjafjhnaaGreatDoorBdCls1
import Derived.ProofKit
import Derived.OpenShut
import Derived.ChangeMaps5
import Derived.Shelf.Vars
import Derived.Deep.DeepHandedRow
import Derived.SizedLaws
import Derived.Lay
import Derived.LaidSub
import Derived.Lib.LaidTab
set_option linter.unusedVariables false
namespace Go.Proofs.YtinlolmjafjhnaaGreatDoor.cLowerNobody
open Go.ChangeShapes Go.WideShapes Go.ChangeAt Go.RowKit

theorem own : ownKnob Tryz.prog.godebug = none := by kernel_rfl
theorem laidOut : laidOutB Tryz.prog = true := by kernel_rfl
/-- The variable that no row lists holds some number. -/
theorem maxLenCell {W : World} (h : W.ShapedOpen Tryz.prog) : ∃ m, W.cell? ⟨6, 0, none⟩ = some (.int .i64 m) :=
  cell_of_shapedOpen_int (t := 3) (zero := #[.int .i64 0]) h (of_decide_eq_true (by kernel_rfl)) (by kernel_rfl) rfl (by kernel_rfl) (by kernel_rfl) Tryz.underlying3
def spaces : List Int := (List.range 256).map fun c => prp.spB c
theorem gSp : Tryz.prog.globalNamed "strings.asciiSpace" = some 0 := by kernel_rfl
theorem gSpType : (Tryz.prog.globals[0]?).map (·.type) = some 183 := by kernel_rfl
theorem cellsTab : Tryz.prog.cellsOf 183 = 256 := by kernel_rfl
theorem cellsElem : Tryz.prog.cellsOf 5 = 1 := by kernel_rfl
theorem table {W : World} (h : laidMetH Tryz.prog Rows.lowerNobodyRow.laid W) : Lib.TabIs Tryz.prog W "strings.asciiSpace" .u8 spaces := by
  have h1 := (laidMetH_iff.1 h).1.filter (fun x => x.1 == "strings.asciiSpace")
  have e : ((Rows.lowerNobodyRow.laid.filter (fun x => x.2.handleName?.isNone)).filter (fun x => x.1 == "strings.asciiSpace")) = [("strings.asciiSpace", Lib.tabData .u8 spaces)] := by kernel_rfl
  rw [e] at h1
  exact Lib.tabIs_of_head (rest := []) gSp gSpType Tryz.underlying183 Tryz.underlying5 cellsElem cellsTab h1
theorem env {W : World} (hL : laidMetH Tryz.prog Rows.lowerNobodyRow.laid W) (hO : W.ShapedOpen Tryz.prog) : prp.Env W :=
  ⟨maxLenCell hO, fun c hc => by
    have := (table hL).cell gSp c (by unfold spaces; rw [List.length_map, List.length_range]; omega)
    rw [this]
    unfold spaces
    simp [List.getD_eq_getElem?_getD, show c < 256 by omega]⟩

theorem gTab5 : Tryz.prog.globalNamed "rubricator/utf.firstMarks" = some 7 := by kernel_rfl
theorem gTab5Type : (Tryz.prog.globals[7]?).map (·.type) = some 313 := by kernel_rfl
theorem cellsTab5 : Tryz.prog.cellsOf 313 = 5 := by kernel_rfl
theorem table5 {W : World} (h : laidMetH Tryz.prog Rows.lowerNobodyRow.laid W) : Lib.TabIs Tryz.prog W "rubricator/utf.firstMarks" .u8 [0, 0, 192, 224, 240] := by
  have h1 := (laidMetH_iff.1 h).1.filter (fun x => x.1 == "rubricator/utf.firstMarks")
  have e : ((Rows.lowerNobodyRow.laid.filter (fun x => x.2.handleName?.isNone)).filter (fun x => x.1 == "rubricator/utf.firstMarks")) = [("rubricator/utf.firstMarks", Lib.tabData .u8 [0, 0, 192, 224, 240])] := by kernel_rfl
  rw [e] at h1
  exact Lib.tabIs_of_head (rest := []) gTab5 gTab5Type Tryz.underlying313 Tryz.underlying5 cellsElem cellsTab5 h1
theorem pe {W : World} (hL : laidMetH Tryz.prog Rows.lowerNobodyRow.laid W) (hO : W.ShapedOpen Tryz.prog) : low.PE W :=
  ⟨⟨(table5 hL).cell gTab5 1 (by decide), (table5 hL).cell gTab5 2 (by decide), (table5 hL).cell gTab5 3 (by decide), (table5 hL).cell gTab5 4 (by decide)⟩, maxLenCell hO⟩


set_option maxRecDepth 100000 in
theorem contract (H : Type) (enc : TypeId × Value → H) (W : World) (base : Nat) (args : Array Value) (ds gs : List (DataW H)) (before : List MemPlace)
    (hval : ∀ (j : Nat) t v, Tryz.f4.params[j]? = some t → args[j]? = some v → Value.okWide Tryz.prog W .any base t v)
    (hW : DataW.Whole enc Tryz.prog Tryz.f4.params.toList Rows.lowerNobodySpec.vars false W args.toList ds gs before) (hsz : (DataW.weightsEach Tryz.prog (Tryz.f4.params.toList ++ (OpenSpec.ofChange Rows.lowerNobodySpec).bare.plain.varTypes Tryz.prog) (ds ++ gs)).all (· ≤ reachBytes) = true) (hO : W.ShapedOpen Tryz.prog) (hL : laidMetH Tryz.prog Rows.lowerNobodyRow.laid W) :
    Calls Tryz.prog 4 args W fun e W' => ∃ v, e = .returned v ∧ Rows.lowerNobodySpec.post enc Tryz.prog Tryz.f4 false true false false W args v W' := by
  have hW' := hW
  obtain ⟨p, q, hA0, hV, rfl, hfz, hnd⟩ := hW
  have hA : DataW.TrodAll enc Tryz.prog W 0 (fun _ => true) true Tryz.f4.params.toList args.toList ds p := hA0
  rw [Tryz.params4] at hA hval
  obtain ⟨v0, vs0, d0, ds0, p0, q0, hargs, rfl, rfl, h0, r0⟩ := trodAll_cons hA
  obtain ⟨v1, vs1, d1, ds1, p1, q1, rfl, rfl, rfl, h1, r1⟩ := trodAll_cons r0
  obtain ⟨rfl, rfl, rfl⟩ := trodAll_nil r1
  obtain rfl : args = #[v0, v1] := by cases args; simp_all
  obtain ⟨rfl, rfl⟩ := trodVars_none hV
  have k0 := h0
  have lt0 : ∀ x ∈ p0, x.block < W.heap.size := by obtain ⟨m, hm⟩ := k0; exact DataW.trod_lt m _ _ _ hm
  obtain ⟨l0, hl0⟩ := nod.open_node (hval 0 25 v0 rfl rfl) h0
  have k1 := h1
  have lt1 : ∀ x ∈ p1, x.block < W.heap.size := by obtain ⟨m, hm⟩ := k1; exact DataW.trod_lt m _ _ _ hm
  obtain ⟨c1, e1, u1, f1, rfl, hf1⟩ := cls.open_opts (hval 1 30 v1 rfl rfl) h1
  clear hA0 hsz
  refine (low.nobody_walk v0 l0 c1 e1 u1 f1 W hl0 (env hL hO) (pe hL hO)).mono fun e W' ⟨he, bel⟩ => ?_
  subst he
  exact ⟨_, rfl, _, _, _, [], _, [], hW', trodAll_mk1 (shut_bool Tryz.underlying4 _), (trodAll_cons_mk (Below.trod laidOut (by kernel_rfl) (of_decide_eq_true (by kernel_rfl)) k0 bel lt0) (trodAll_cons_mk (Below.trod laidOut (by kernel_rfl) (of_decide_eq_true (by kernel_rfl)) k1 bel lt1) trodAll_mk0)), rfl, bel.frame _, fun h => by cases h⟩

theorem laid_met (os : Os) : laidMet Tryz.prog Rows.lowerNobodyRow.laid ((World.laidAll Tryz.prog os Rows.lowerNobodyRow.laid).forCall (fun _ _ => 0) ⟨#[], #[.agg #[.int .i64 0, .int .i64 0, .int .i64 0, .int .i64 0, .bool false, .string ByteArray.empty, .slice none 0 0, .slice none 0 0], .agg #[.bool false, .bool false, .bool false, .int .i64 0]], []⟩).memory :=
  laidMet_laidAll _ (by kernel_rfl) (by kernel_rfl)
theorem shaped (os : Os) : ((World.laidAll Tryz.prog os Rows.lowerNobodyRow.laid).forCall (fun _ _ => 0) ⟨#[], #[.agg #[.int .i64 0, .int .i64 0, .int .i64 0, .int .i64 0, .bool false, .string ByteArray.empty, .slice none 0 0, .slice none 0 0], .agg #[.bool false, .bool false, .bool false, .int .i64 0]], []⟩).Shaped Tryz.prog :=
  World.shaped_of_ZipB (by kernel_rfl) (by kernel_rfl)
theorem fits (os : Os) : Input.okWideB Tryz.prog ((World.laidAll Tryz.prog os Rows.lowerNobodyRow.laid).forCall (fun _ _ => 0) ⟨#[], #[.agg #[.int .i64 0, .int .i64 0, .int .i64 0, .int .i64 0, .bool false, .string ByteArray.empty, .slice none 0 0, .slice none 0 0], .agg #[.bool false, .bool false, .bool false, .int .i64 0]], []⟩) 4 ⟨#[], #[.agg #[.int .i64 0, .int .i64 0, .int .i64 0, .int .i64 0, .bool false, .string ByteArray.empty, .slice none 0 0, .slice none 0 0], .agg #[.bool false, .bool false, .bool false, .int .i64 0]], []⟩ = true := by kernel_rfl
theorem reads (os : Os) {H : Type} (enc : TypeId × Value → H) : ∃ places, DataW.whole enc Tryz.prog ((World.laidAll Tryz.prog os Rows.lowerNobodyRow.laid).forCall (fun _ _ => 0) ⟨#[], #[.agg #[.int .i64 0, .int .i64 0, .int .i64 0, .int .i64 0, .bool false, .string ByteArray.empty, .slice none 0 0, .slice none 0 0], .agg #[.bool false, .bool false, .bool false, .int .i64 0]], []⟩).memory Tryz.f4.params.toList Rows.lowerNobodySpec.vars false #[Value.agg #[.int .i64 0, .int .i64 0, .int .i64 0, .int .i64 0, .bool false, .string ByteArray.empty, .slice none 0 0, .slice none 0 0], .agg #[.bool false, .bool false, .bool false, .int .i64 0]].toList 8 = some ([.agg [.lit (.int .i64 0), .lit (.int .i64 0), .lit (.int .i64 0), .lit (.int .i64 0), .lit (.bool false), .lit (.string []), .nil, .nil], .agg [.lit (.bool false), .lit (.bool false), .lit (.bool false), .lit (.int .i64 0)]], [], places) :=
  ⟨[], by kernel_rfl⟩

set_option maxRecDepth 100000 in
theorem lifted (os : Os) (started : os.Started) (H : Type) (enc : TypeId × Value → H) (F : Stop.Interp) :
    ReturnsInHanded {} Tryz.checked os 4 .any ((OpenSpec.ofChange Rows.lowerNobodySpec).preRow enc Tryz.prog Tryz.f4 Rows.lowerNobodyRow.domain false Rows.lowerNobodyRow.laid) (((OpenSpec.ofChange Rows.lowerNobodySpec).at F).post enc Tryz.prog Tryz.f4 false true false false) := by
  obtain ⟨places, hx⟩ := reads os enc
  refine returnsInHanded_of_row (C := Tryz.checked) (s := (OpenSpec.ofChange Rows.lowerNobodySpec)) own started (by kernel_rfl) Tryz.func4
    ⟨World.laidAll Tryz.prog os Rows.lowerNobodyRow.laid, fun _ _ => 0, ⟨#[], #[.agg #[.int .i64 0, .int .i64 0, .int .i64 0, .int .i64 0, .bool false, .string ByteArray.empty, .slice none 0 0, .slice none 0 0], .agg #[.bool false, .bool false, .bool false, .int .i64 0]], []⟩, World.laidAll_os _ _ _, shaped os, rfl, (Input.okWide_of_okWideB (fits os)).2,
      OpenSpec.preRow_of_cond 8 hx (by kernel_rfl) (fun k hk => by cases hk) (by kernel_rfl) (laid_met os), by
        simp only [Assume.holds]
        exact ⟨by simp, by simp, by simp, by simp, by simp⟩⟩ ?_
  intro W base args ds gs before hval hW _ hcond hsz hL hO _
  exact contract H enc W base args ds gs before hval hW hsz hO hL

theorem and_tt {a b : Bool} (h1 : a = true) (h2 : b = true) : (a && b) = true := by rw [h1, h2]; rfl
set_option maxHeartbeats 8000000 in
set_option maxRecDepth 100000 in
theorem closed : joinedFacts Tryz.pinned.checked.prog 4 Tryz.f4 (OpenSpec.ofChange Rows.lowerNobodySpec).bare Rows.lowerNobodyRow = true := by
  unfold joinedFacts
  refine and_tt (and_tt (and_tt (and_tt (and_tt (and_tt (and_tt (and_tt (and_tt (and_tt (and_tt (and_tt (and_tt (and_tt (and_tt (and_tt (and_tt (and_tt (and_tt (and_tt (and_tt (and_tt (and_tt (and_tt (and_tt (and_tt (and_tt (and_tt (and_tt (and_tt (and_tt ?_ ?_) ?_) ?_) ?_) ?_) ?_) ?_) ?_) ?_) ?_) ?_) ?_) ?_) ?_) ?_) ?_) ?_) ?_) ?_) ?_) ?_) ?_) ?_) ?_) ?_) ?_) ?_) ?_) ?_) ?_) ?_
  all_goals (as_aux_lemma => kernel_rfl)

theorem said : Rows.LowerNobodySaid :=
  OpenClaim.holds_of_cond 4 Tryz.f4 rfl rfl rfl rfl rfl rfl rfl ⟨rfl, rfl, rfl, rfl, rfl⟩ rfl rfl rfl rfl rfl (by kernel_rfl) Tryz.func4 closed
    (of_decide_eq_true (by kernel_rfl)) (by unfold Func.isWrapper; first | (rw [if_pos (by decide +kernel)]; kernel_rfl) | (rw [if_neg (by decide +kernel)]; exact ⟨rfl, rfl⟩))
    (fun os started H enc _ F => by rw [OpenClaim.pre_eq_preRow]; exact lifted os started H enc F)

theorem plain (f : FuncId) (fn : Func) (hf : Tryz.pinned.checked.prog.funcNamed "rubricator/rubricatorlaw17.LowerNobody" = some f) (hfn : Tryz.pinned.checked.prog.funcs[f]? = some fn) :
    true = Tryz.pinned.checked.prog.looks [] ∧ ∀ (j : Nat) t, fn.params[j]? = some t → Tryz.pinned.checked.prog.wantsStandIn t = false := by
  obtain rfl : f = 4 := Option.some.inj ((show Tryz.prog.funcNamed "rubricator/rubricatorlaw17.LowerNobody" = some 4 by kernel_rfl).symm.trans hf) |>.symm
  obtain rfl : fn = Tryz.f4 := (Option.some.inj (Tryz.func4.symm.trans hfn)).symm
  refine ⟨by kernel_rfl, fun j t ht => ?_⟩
  rw [Tryz.params4] at ht
  have hm : t ∈ [25, 30] := by simpa using Array.mem_of_getElem? ht
  have hall : ([25, 30].all fun u => !Tryz.prog.wantsStandIn u) = true := by kernel_rfl
  exact (show Tryz.prog.wantsStandIn t = false by simpa using List.all_eq_true.1 hall t hm)

theorem card : Rows.LowerNobodyCardSaid :=
  Claim7.holds_tied_plain_at .later [] _ _ _ _ said (fun _ h => by cases h) (by kernel_rfl) (fun _ h => by cases h) lowerNobody_row_tie rfl ⟨rfl, rfl⟩ (by kernel_rfl) rfl plain (by kernel_rfl)
#print axioms card
end Go.Proofs.YtinlolmjafjhnaaGreatDoor.cLowerNobody
