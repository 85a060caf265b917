/- Texts that the proof leans on, one behind the other. -/
import Derived.Test.YtcmhkfiijdomiaaGreatDoorBdWrd1
import Derived.Laws.AppendOwnNone
import Derived.Lib.AppendZerosOnto
import Derived.Lib.SliceRun
import Derived.Deep.AppendLies
import Derived.Test.YtcmhkfiijdomiaaGreatDoorBdWrd10
import Derived.Test.YtcmhkfiijdomiaaGreatDoorBdWrd5
import Derived.Deep.QuietTactic
import Derived.BigQuiet

section
/- slices.Concat of three rows of numbers. -/
set_option linter.unusedVariables false
set_option linter.unusedSimpArgs false
namespace Go.Proofs.YtcmhkfiijdomiaaGreatDoor.wrd
open Go.Shelf Go.RowKit Go.Lib Go.Sort Go.Proofs
open Go.Proofs.YtcmhkfiijdomiaaGreatDoor.prp Go.Proofs.YtcmhkfiijdomiaaGreatDoor.lin

theorem infoI64 : (Tryz.prog.info? 3).map (fun i => (i.zero, i.size, i.bytes)) = some (some (.int .i64 0), 1, 8) := by kernel_rfl

set_option maxRecDepth 1000000 in
theorem grow_zero (w : World) : Calls Tryz.prog 55 #[.slice none 0 0, .int .i64 0] w fun e w' => e = .returned (.slice none 0 0) ∧ w' = w := by
  go_enter Tryz.func55, Tryz.ntmps55
  go_wp2
  go_ret
  exact ⟨rfl, rfl⟩

set_option maxHeartbeats 400000 in
set_option maxRecDepth 1000000 in
theorem grow_pos (n : Nat) (w : World) (h0 : 0 < n) (hn : n ≤ 100000) :
    Calls Tryz.prog 55 #[.slice none 0 0, .int .i64 n] w fun e w' => ∃ v, e = .returned v ∧ IOwn w' w.heap.size v [] ∧ Below w.heap.size w w' := by
  obtain ⟨i0, hi, hz0, hz1, hz2⟩ := info_parts infoI64
  have hold : (Builtin.firstCells i0.size 0 (.slice none 0 0)).run Tryz.prog w.drew = .ok ([] : List Value).toArray w.drew := run_firstCells_none w.drew i0.size 0 0 0
  have hrz : ∀ ty, (Builtin.append_ #[22, 3] ty #[.slice none 0 0, .int .i64 (n : Int)]).run Tryz.prog w =
      .ok (.slice (some ⟨w.heap.size, 0, none⟩) n (grownCap w n 0 3)) (w.drew.alloc (.cells (([] : List Value).toArray ++ Builtin.zeroCells (Value.int .i64 0).cells n ++ Builtin.zeroCells (Value.int .i64 0).cells (grownCap w n 0 3 - n)) 3)) := fun ty => by
    have h := Lib.run_append_grow_zeros w 22 3 ty 3 i0 (.int .i64 0) .i64 .i64 Tryz.underlying22 Tryz.underlying3 hi hz0 none 0 0 [] hold n (by omega) (by omega) (by omega) (by omega)
      (by rw [hz2]; omega)
      (by rw [Nat.zero_add]; exact growslice_fits h0 (by rw [hz2]; omega))
    simpa using h
  have hGn : n ≤ grownCap w n 0 3 := grownCap_ge w _ _ _
  have hG63 := grownCap_le_maxLen w n 0 3 (by unfold maxLen; omega)
  have hp : (0 : Int) < (n : Int) := by omega
  generalize grownCap w n 0 3 = G at *
  have HO : Hid ((w.alloc (.cells (Builtin.zeroCells #[.int .i64 0] n ++ Builtin.zeroCells #[.int .i64 0] (G - n)) 3)).drew.ownsRow w.heap.size 3 1 (.slice (some ⟨w.heap.size, 0, none⟩) 0 G) 0 []) :=
    (World.ownsRow_made (base := w.heap.size) (e := 3) (size := 1) w _ G (Nat.le_refl _) hG63 (by simp [Builtin.zeroCells]; omega)).drew
  clear hold
  have hGb : G ≤ 9223372036854775807 := by unfold maxLen at hG63; omega
  go_enter Tryz.func55, Tryz.ntmps55
  go_wp2_with (at_builtin; refine Lib.wpList_append_run _ rfl _ _ _ _ rfl _ _ rfl rfl _ _ (hrz _) ?_)
  all_goals go_ret
  all_goals exact ⟨_, rfl, HO.out, ((Below.refl _ _).alloc (Nat.le_refl _) _).drew⟩

/-- append(dst, src...), dst the call's own, src nil or not. -/
theorem wpList_append_src {w : World} {ops : Array Oper} {rest : List Oper} {o : Oper} {a : Act} {Q : Exit → Act → World → Prop} (hgd : o.guard = none) (s x : Operand)
    (ho : o.op = .call { callee := .builtin .append, args := #[s, x], argTypes := #[22, 22] })
    (base : Nat) (i : TypeInfo) (hi : Tryz.prog.info? 3 = some i) (hz : i.zero = some (.int .i64 0)) (hsize : i.size = 1) (hby : i.bytes = 8)
    (v : Value) (n : Nat) (xs : List Value) (hs : a.eval s = v) (hown : w.ownsRow base 3 1 v n xs)
    (ao : Option Addr) (m c : Nat) (news : List Value) (hx : a.eval x = .slice ao m c) (hl : news.length = m) (hnil : ao = none → m = 0 ∧ c = 0)
    (hnews : ∀ ad, ao = some ad → ∀ j u, news[j]? = some u → w.cell? (ad.add j) = some u) (h1 : ∀ u ∈ news, u.oneCell' = true)
    (h63 : n + m ≤ maxLen) (hbytes : (n + m) * 8 ≤ 140737488355328) (hbase : base ≤ w.heap.size)
    (h : ∀ v' w', w'.ownsRow base 3 1 v' (n + m) (xs ++ news) → w.grownBy w' v.ownBlock → wpList Tryz.prog ops Q rest (a.put o.dst v') w') : wpList Tryz.prog ops Q (o :: rest) a w := by
  cases ao with
  | none =>
    obtain ⟨rfl, rfl⟩ := hnil rfl
    obtain rfl := List.eq_nil_of_length_eq_zero hl
    refine wpList_append_own_none hgd s x 22 ho base 3 i 1 Tryz.underlying22 hi v n xs hs hown hx (h v w ?_ ⟨rfl, rfl, rfl, Nat.le_refl _, fun _ _ _ => rfl⟩)
    simpa using hown
  | some ad =>
    exact wpList_append_own w hgd s x 22 ho base 3 i (.int .i64 0) 1 8 Tryz.underlying22 hi hz hsize hby rfl (by decide) v n xs hs hown ad m c news hx (by simpa using hl) (hnews ad rfl) h1 h63 hbytes hbase (fun v' w' h2 h3 _ => h v' w' h2 h3)

theorem iv_news {w : World} {ao : Option Addr} {n c : Nat} {l : List Int} (h : IV w (.slice ao n c) l) (hl : l.length = n) : ∀ ad, ao = some ad → ∀ (j : Nat) (u : Value), (l.map (Value.int .i64))[j]? = some u → w.cell? (ad.add j) = some u := by
  intro ad e j u hj
  obtain ⟨a, c', e', hc⟩ := h
  cases e'
  subst e
  have hjn : j < l.length := by
    rcases Nat.lt_or_ge j l.length with h | h
    · exact h
    · rw [List.getElem?_eq_none (by simpa using h)] at hj; simp at hj
  obtain ⟨b, o, e, hx⟩ := hc (by omega)
  cases e
  rw [Addr.add_lit, hx j hjn, ← hj, List.getElem?_map, List.getD_eq_getElem?_getD, List.getElem?_eq_getElem hjn]
  rfl

set_option maxHeartbeats 2000000 in
set_option maxRecDepth 1000000 in
theorem concat_any (B na ca nb cb nc cc : Nat) (aa ab ac : Option Addr) (la lb lc : List Int) (w : World) (c0 : w.cell? ⟨B, 0, none⟩ = some (.slice aa na ca)) (c1 : w.cell? ⟨B, 1, none⟩ = some (.slice ab nb cb)) (c2 : w.cell? ⟨B, 2, none⟩ = some (.slice ac nc cc))
    (hA : IV w (.slice aa na ca) la) (hB : IV w (.slice ab nb cb) lb) (hC : IV w (.slice ac nc cc) lc) (hla : la.length = na) (hlb : lb.length = nb) (hlc : lc.length = nc) (hna : aa = none → na = 0 ∧ ca = 0) (hnb : ab = none → nb = 0 ∧ cb = 0) (hnc : ac = none → nc = 0 ∧ cc = 0) (hn : na + nb + nc ≤ 100000) :
    Calls Tryz.prog 21 #[.slice (some ⟨B, 0, none⟩) 3 3] w fun e w' => ∃ v, e = .returned v ∧ IOwn w' w.heap.size v (la ++ lb ++ lc) ∧ Below w.heap.size w w' := by
  obtain ⟨i0, hi, hz0, hz1, hz2⟩ := info_parts infoI64
  have C0 : Hid (w.cell? ⟨B, 0, none⟩ = some (.slice aa na ca)) := c0
  have C1 : Hid (w.cell? ⟨B, 1, none⟩ = some (.slice ab nb cb)) := c1
  have C2 : Hid (w.cell? ⟨B, 2, none⟩ = some (.slice ac nc cc)) := c2
  have HA : Hid (IV w (.slice aa na ca) la) := hA
  have HB : Hid (IV w (.slice ab nb cb) lb) := hB
  have HC : Hid (IV w (.slice ac nc cc) lc) := hC
  have HNA : Hid (aa = none → na = 0 ∧ ca = 0) := hna
  have HNB : Hid (ab = none → nb = 0 ∧ cb = 0) := hnb
  have HNC : Hid (ac = none → nc = 0 ∧ cc = 0) := hnc
  have HLA : Hid (la.length = na) := hla
  have HLB : Hid (lb.length = nb) := hlb
  have HLC : Hid (lc.length = nc) := hlc
  have GR : ∀ w, Calls Tryz.prog 55 #[.slice none 0 0, .int .i64 ((na : Int) + (nb : Int) + (nc : Int))] w fun e w' => ∃ v, e = .returned v ∧ w'.ownsRow w.heap.size 3 1 v 0 [] ∧ Below w.heap.size w w' := by
    intro w
    rcases Nat.eq_zero_or_pos (na + nb + nc) with h | h
    · have e : (na : Int) + (nb : Int) + (nc : Int) = 0 := by omega
      rw [e]
      refine (grow_zero w).mono ?_
      rintro e w' ⟨rfl, rfl⟩
      exact ⟨_, rfl, World.ownsRow_nil _ _ _ _, Below.refl _ _⟩
    · have := grow_pos (na + nb + nc) w h hn
      rw [Int.natCast_add, Int.natCast_add] at this
      exact this
  have HG : Hid (∀ w, Calls Tryz.prog 55 #[.slice none 0 0, .int .i64 ((na : Int) + (nb : Int) + (nc : Int))] w fun e w' => ∃ v, e = .returned v ∧ w'.ownsRow w.heap.size 3 1 v 0 [] ∧ Below w.heap.size w w') := GR
  have s1 : IntKind.i64.wrap (na : Int) = (na : Int) := by rw [IntKind.wrap_i64]; omega
  have s2 : IntKind.i64.wrap ((na : Int) + (nb : Int)) = (na : Int) + (nb : Int) := by rw [IntKind.wrap_i64]; omega
  have s3 : IntKind.i64.wrap ((na : Int) + (nb : Int) + (nc : Int)) = (na : Int) + (nb : Int) + (nc : Int) := by rw [IntKind.wrap_i64]; omega
  clear GR hA hB hC hna hnb hnc hla hlb hlc
  go_enter Tryz.func21, Tryz.ntmps21
  go_wp2
  refine wp_loop_rounds 4 ?_
  rw [rounds_succ]
  go_wp2
  rw [rounds_succ]
  go_wp2
  rw [rounds_succ]
  go_wp2
  rw [rounds_succ]
  go_wp2_with fail
  refine (HG.out _).mono ?_
  rintro e w1 ⟨v, rfl, hown, hb1⟩
  clear HG
  go_wp2
  go_loopw [6, 27] (fun v i wr => Below w.heap.size w wr ∧ ((i = .int .i64 0 ∧ wr.ownsRow w.heap.size 3 1 v 0 []) ∨ (i = .int .i64 1 ∧ wr.ownsRow w.heap.size 3 1 v na (la.map (Value.int .i64))) ∨ (i = .int .i64 2 ∧ wr.ownsRow w.heap.size 3 1 v (na + nb) ((la ++ lb).map (Value.int .i64))) ∨ (i = .int .i64 3 ∧ wr.ownsRow w.heap.size 3 1 v (na + nb + nc) ((la ++ lb ++ lc).map (Value.int .i64))))) (fun _ i _ => 3 - (RowKit.intOf i).toNat)
  case atStart => exact ⟨hb1, .inl ⟨rfl, hown⟩⟩
  case round =>
    clear hown hb1
    obtain ⟨hbel, ⟨rfl, hown⟩ | ⟨rfl, hown⟩ | ⟨rfl, hown⟩ | ⟨rfl, hown⟩⟩ := hrel
    · have cl := (hbel.cell (World.block_lt_of_cell? w _ C0.out)).trans C0.out
      have HNW : Hid (∀ ad, aa = some ad → ∀ (j : Nat) (u : Value), (la.map (Value.int .i64))[j]? = some u → wr.cell? (ad.add j) = some u) := iv_news (HA.out.below hbel) HLA.out
      go_wp2_with (at_builtin; refine wpList_append_src rfl _ _ rfl w.heap.size i0 hi hz0 hz1 hz2 _ _ _ rfl hown aa na ca (la.map (Value.int .i64)) rfl ?ea0 HNA.out HNW.out ?ea2 ?ea3 ?ea4 hbel.size ?_)
      case ea0 => rw [List.length_map]; exact HLA.out
      case ea2 => intro u hu; simp at hu; obtain ⟨x, _, rfl⟩ := hu; rfl
      case ea3 => unfold maxLen; omega
      case ea4 => omega
      · intro v' w3 hown3 hgrow
        have R3 := Below.grown hbel hgrow hbel.size (fun k e => (hown.lt _ e).1)
        clear hgrow hown hbel HNW
        go_wp2
        go_roundw
        case rel => exact ⟨R3, .inr (.inl ⟨rfl, by simpa using hown3⟩)⟩
        case measure => simp [RowKit.intOf]
    · have cl := (hbel.cell (World.block_lt_of_cell? w _ C1.out)).trans C1.out
      have HNW : Hid (∀ ad, ab = some ad → ∀ (j : Nat) (u : Value), (lb.map (Value.int .i64))[j]? = some u → wr.cell? (ad.add j) = some u) := iv_news (HB.out.below hbel) HLB.out
      go_wp2_with (at_builtin; refine wpList_append_src rfl _ _ rfl w.heap.size i0 hi hz0 hz1 hz2 _ _ _ rfl hown ab nb cb (lb.map (Value.int .i64)) rfl ?eb0 HNB.out HNW.out ?eb2 ?eb3 ?eb4 hbel.size ?_)
      case eb0 => rw [List.length_map]; exact HLB.out
      case eb2 => intro u hu; simp at hu; obtain ⟨x, _, rfl⟩ := hu; rfl
      case eb3 => unfold maxLen; omega
      case eb4 => omega
      · intro v' w3 hown3 hgrow
        have R3 := Below.grown hbel hgrow hbel.size (fun k e => (hown.lt _ e).1)
        clear hgrow hown hbel HNW
        go_wp2
        go_roundw
        case rel => exact ⟨R3, .inr (.inr (.inl ⟨rfl, by rw [List.map_append]; exact hown3⟩))⟩
        case measure => simp [RowKit.intOf]
    · have cl := (hbel.cell (World.block_lt_of_cell? w _ C2.out)).trans C2.out
      have HNW : Hid (∀ ad, ac = some ad → ∀ (j : Nat) (u : Value), (lc.map (Value.int .i64))[j]? = some u → wr.cell? (ad.add j) = some u) := iv_news (HC.out.below hbel) HLC.out
      go_wp2_with (at_builtin; refine wpList_append_src rfl _ _ rfl w.heap.size i0 hi hz0 hz1 hz2 _ _ _ rfl hown ac nc cc (lc.map (Value.int .i64)) rfl ?ec0 HNC.out HNW.out ?ec2 ?ec3 ?ec4 hbel.size ?_)
      case ec0 => rw [List.length_map]; exact HLC.out
      case ec2 => intro u hu; simp at hu; obtain ⟨x, _, rfl⟩ := hu; rfl
      case ec3 => unfold maxLen; omega
      case ec4 => omega
      · intro v' w3 hown3 hgrow
        have R3 := Below.grown hbel hgrow hbel.size (fun k e => (hown.lt _ e).1)
        clear hgrow hown hbel HNW
        go_wp2
        go_roundw
        case rel => exact ⟨R3, .inr (.inr (.inr ⟨rfl, by rw [List.map_append, List.map_append, List.append_assoc]; exact hown3⟩))⟩
        case measure => simp [RowKit.intOf]
    · go_wp2
      go_ret
      refine ⟨_, rfl, ?_, hbel⟩
      unfold IOwn
      rw [List.length_append, List.length_append, HLA.out, HLB.out, HLC.out]
      exact hown
end Go.Proofs.YtcmhkfiijdomiaaGreatDoor.wrd
end

section
/- WordLines, WordLetters, WordNobody: the walks. -/
set_option linter.unusedVariables false
set_option linter.unusedSimpArgs false
namespace Go.Proofs.YtcmhkfiijdomiaaGreatDoor.wrd
open Go.RowKit Go.Maps
open Go.Proofs.YtcmhkfiijdomiaaGreatDoor.lin Go.Proofs.YtcmhkfiijdomiaaGreatDoor.prp
open Go.Proofs.YtcmhkfiijdomiaaGreatDoor.clu (ArgC)

theorem below_drewN {B : Nat} {a w : World} (h : Below B a w) (q : Nat) : Below B a (w.drewN q) := ⟨h.os, h.tape, h.output, h.size, h.block⟩
theorem lit_iv (w : World) (x : Int) : IV (w.alloc (.cells #[.int .i64 x] 3)) (.slice (some ⟨w.heap.size, 0, none⟩) 1 1) [x] :=
  IOwn.iv (base := 0) (World.ownsRow_lit (base := 0) (e := 3) (size := 1) w #[.int .i64 x] 1 (Nat.zero_le _) (by unfold maxLen; omega) rfl)
theorem okI_small {x : Int} (h0 : 0 ≤ x) (h1 : x ≤ 1114111) : okI x := by unfold okI; omega
set_option maxHeartbeats 4000000 in
set_option maxRecDepth 1000000 in
theorem lines_walk (va : Value) (la : List Int) (vb : Value) (lb : List Int) (w : World) (ha : ArgC w va la) (hb : ArgC w vb lb) (E : Env w) : Calls Tryz.prog 7 #[va, vb] w fun e w' => e = .returned (.bool true) ∧ Below w.heap.size w w' := by
  have HE : Hid (Env w) := E
  have HA : Hid (ArgC w va la) := ha
  have HA2 : Hid (ArgC w vb lb) := hb
  obtain ⟨aa, ca, rfl, _, hoka, hcapa, hmaxa, hnila⟩ := ha
  obtain ⟨ab, cb, rfl, _, hokb, hcapb, hmaxb, hnilb⟩ := hb
  obtain ⟨n, hn⟩ : ∃ n, min la.length 30 = n := ⟨_, rfl⟩
  obtain ⟨m, hm⟩ : ∃ m, min lb.length 30 = m := ⟨_, rfl⟩
  have hnl : n ≤ la.length := by omega
  have hml : m ≤ lb.length := by omega
  have hn30 : n ≤ 30 := by omega
  have hm30 : m ≤ 30 := by omega
  have HV : Hid (IV w (.slice aa n ca) (la.take n)) := HA.out.take n hnl
  have HV2 : Hid (IV w (.slice ab m cb) (lb.take m)) := HA2.out.take m hml
  have HL : Hid ((la.take n).length = n) := by show _ = _; rw [List.length_take]; omega
  have HL2 : Hid ((lb.take m).length = m) := by show _ = _; rw [List.length_take]; omega
  have HOK : Hid (∀ x ∈ la.take n ++ [10] ++ lb.take m, okI x) := fun x hx => by
    rcases List.mem_append.1 hx with hx | hx
    · rcases List.mem_append.1 hx with hx | hx
      · exact hoka x (List.mem_of_mem_take hx)
      · rw [List.mem_singleton.1 hx]; exact okI_small (by decide) (by decide)
    · exact hokb x (List.mem_of_mem_take hx)
  have HNA : Hid (aa = none → n = 0 ∧ ca = 0) := fun e => by have := hnila e; exact ⟨by omega, this⟩
  have HNB : Hid (ab = none → m = 0 ∧ cb = 0) := fun e => by have := hnilb e; exact ⟨by omega, this⟩
  have hmin : min (la.length : Int) 30 = (n : Int) := by omega
  have hmin2 : (if (la.length : Int) < 30 then (la.length : Int) else 30) = (n : Int) := by split <;> omega
  have hmin3 : (if (30 : Int) < (la.length : Int) then 30 else (la.length : Int)) = (n : Int) := by split <;> omega
  have hmin4 : (if (la.length : Int) ≤ 30 then (la.length : Int) else 30) = (n : Int) := by split <;> omega
  have hminb : min (lb.length : Int) 30 = (m : Int) := by omega
  have hmin2b : (if (lb.length : Int) < 30 then (lb.length : Int) else 30) = (m : Int) := by split <;> omega
  have hmin3b : (if (30 : Int) < (lb.length : Int) then 30 else (lb.length : Int)) = (m : Int) := by split <;> omega
  have hmin4b : (if (lb.length : Int) ≤ 30 then (lb.length : Int) else 30) = (m : Int) := by split <;> omega
  have hncap : (n : Int) ≤ (ca : Int) := by omega
  have hmcap : (m : Int) ≤ (cb : Int) := by omega
  have hn0 : (0 : Int) ≤ (n : Int) := by omega
  have hm0 : (0 : Int) ≤ (m : Int) := by omega
  generalize la.take n = LA at *
  generalize lb.take m = LB at *
  generalize la.length = lla at *
  generalize lb.length = llb at *
  clear hoka hokb HA HA2 E hnila hnilb hn hm
  go_enter Tryz.func7, Tryz.ntmps7
  go_wp2_with fail
  go_quiet (fail)
  have HB0 : Hid (Below w.heap.size w (w.drewN nq)) := below_drewN (Below.refl _ w) _
  generalize w.drewN nq = w0 at HB0 ⊢
  have C := load_any w0 (HE.out.below HB0.out)
  clear hmin hminb hmin2 hmin3 hmin4 hmin2b hmin3b hmin4b hncap hmcap hm0 hnl hml hcapa hcapb hmaxa hmaxb
  go_wp2_with fail
  refine C.mono ?_
  rintro e w1 ⟨t, rfl, ht, b1⟩
  clear C
  have HB1 : Hid (Below w.heap.size w w1) := HB0.out.trans (b1.mono HB0.out.size)
  have ba : Below w1.heap.size w1 (w1.alloc (.cells #[.int .i64 10] 3)) := (Below.refl _ w1).alloc (Nat.le_refl _) _
  obtain ⟨W, hW⟩ : ∃ W, W = (w1.alloc (.cells #[.int .i64 10] 3)).alloc (.cells #[.slice aa n ca, .slice (some ⟨w1.heap.size, 0, none⟩) 1 1, .slice ab m cb] 22) := ⟨_, rfl⟩
  have bb : Below (w1.alloc (.cells #[.int .i64 10] 3)).heap.size (w1.alloc (.cells #[.int .i64 10] 3)) W := by rw [hW]; exact (Below.refl _ _).alloc (Nat.le_refl _) _
  have bW : Below w1.heap.size w1 W := ba.trans (bb.mono ba.size)
  have HBW : Hid (Below w.heap.size w W) := HB1.out.trans (bW.mono HB1.out.size)
  have nb : W.heap[w1.heap.size + 1]? = some (.cells #[.slice aa n ca, .slice (some ⟨w1.heap.size, 0, none⟩) 1 1, .slice ab m cb] 22 (0, 0)) := by
    rw [hW]
    have := World.alloc_heap_new (w1.alloc (.cells #[.int .i64 10] 3)) (.cells #[.slice aa n ca, .slice (some ⟨w1.heap.size, 0, none⟩) 1 1, .slice ab m cb] 22)
    rwa [World.size_alloc] at this
  have HT : Hid (Tabs W t) := ht.below bW
  have C := concat_any (w1.heap.size + 1) n ca 1 1 m cb aa (some ⟨w1.heap.size, 0, none⟩) ab LA [10] LB W (cell_of_row W _ 0 _ _ _ nb) (cell_of_row W _ 1 _ _ _ nb) (cell_of_row W _ 2 _ _ _ nb) (HV.out.below HBW.out) ((lit_iv w1 10).below bb) (HV2.out.below HBW.out) HL.out rfl HL2.out HNA.out (fun e => by cases e) HNB.out (by omega)
  rw [hW] at C
  clear ba bb bW nb ht b1
  go_wp2_with fail
  refine C.mono ?_
  rintro e w2 ⟨lv, rfl, ho, b2⟩
  rw [← hW] at b2 ho
  clear C
  have hll : (LA ++ [10] ++ LB).length = n + 1 + m := by rw [List.length_append, List.length_append, HL.out, HL2.out]; rfl
  obtain ⟨xa, xc, rfl, htx⟩ := iown_txt ho hll HOK.out (by omega)
  have HTX : Hid (Txt w2 xa (n + 1 + m) xc (LA ++ [10] ++ LB)) := htx
  have HB2 : Hid (Below w.heap.size w w2) := HBW.out.trans (b2.mono HBW.out.size)
  have HT2 : Hid (Tabs w2 t) := HT.out.below b2
  have HEI : Hid (∀ (V : World) (i : Int), Below w2.heap.size w2 V → Calls Tryz.prog 12 #[.pointer (some ⟨t, 0, none⟩), .slice xa (n + 1 + m) xc, .int .i64 i] V fun e w' => e = .returned (.bool (edgeW (LA ++ [10] ++ LB) i)) ∧ Below V.heap.size V w') := fun V i hb => edge_t t xa _ xc _ i V (HT2.out.below hb) (HTX.out.below hb)
  have HBH : Hid (edgeW (LA ++ [10] ++ LB) ((n : Int) + 1) = true) := by have := lines_behind LA LB; rw [HL.out] at this; exact this
  have HAW : Hid (∀ V, Below w2.heap.size w2 V → Calls Tryz.prog 15 #[] V fun e w' => e = .returned (.bool true) ∧ Below V.heap.size V w') := fun V hb => awake_any V (HE.out.below (HB2.out.trans (hb.mono HB2.out.size)))
  have wn1 : IntKind.i64.wrap ((n : Int) + 1) = (n : Int) + 1 := by rw [IntKind.wrap_i64]; omega
  clear hW ho b2 hll htx HBW HT HB0 HB1
  generalize n + 1 + m = NN at *
  rcases Nat.eq_zero_or_pos n with h0 | h0
  · have HF : Hid (edgeW (LA ++ [10] ++ LB) (n : Int) = true) := by
      have e : LA = [] := List.eq_nil_of_length_eq_zero (by rw [HL.out]; exact h0)
      unfold Hid
      rw [h0, e]
      exact lines_first LB
    have hgt : ¬ (0 : Int) < (n : Int) := by omega
    have C := HEI.out w2 (n : Int) (Below.refl _ _)
    rw [HF.out] at C
    clear HF h0
    go_wp2_with fail
    refine C.mono ?_
    rintro e w3 ⟨rfl, b3⟩
    clear C
    have HB3 : Hid (Below w2.heap.size w2 w3) := b3
    have C := HEI.out w3 ((n : Int) + 1) b3
    rw [HBH.out] at C
    clear b3
    go_wp2_with fail
    refine C.mono ?_
    rintro e w4 ⟨rfl, b4⟩
    clear C
    have HB4 : Hid (Below w2.heap.size w2 w4) := HB3.out.trans (b4.mono HB3.out.size)
    have C := HAW.out w4 HB4.out
    clear b4 HB3
    go_wp2_with fail
    refine C.mono ?_
    rintro e w5 ⟨rfl, b5⟩
    clear C
    have HB5 : Hid (Below w2.heap.size w2 w5) := HB4.out.trans (b5.mono HB4.out.size)
    clear b5 HB4
    go_wp2
    go_ret
    exact ⟨rfl, HB2.out.trans (HB5.out.mono HB2.out.size)⟩
  · obtain ⟨k, hk⟩ : ∃ k, n = k + 1 := ⟨n - 1, by omega⟩
    obtain ⟨hla, hat⟩ := iv_cells HV.out
    obtain ⟨x, b, o, rfl, cx0, hx⟩ := hat k (by omega)
    have cx := cell_below HB2.out cx0
    have HF : Hid (edgeW (LA ++ [10] ++ LB) (n : Int) = !(x == 13)) := by
      have e : LA = LA.take k ++ [x] := by
        have := List.take_append_drop k LA
        have hkl : k < LA.length := by omega
        rw [← List.take_of_length_le (show LA.length ≤ k + 1 by omega), List.take_add_one, hx, List.take_append_of_le_length (by rw [List.length_take]; omega), List.take_take, Nat.min_self]
        rfl
      have q := lines_ahead (LA.take k) LB x
      rw [← e, List.length_take, Nat.min_eq_left (by omega), ← hk] at q
      exact q
    have hgt : (0 : Int) < (n : Int) := by omega
    have wk : IntKind.i64.wrap ((n : Int) - 1) = (k : Int) := by rw [IntKind.wrap_i64]; omega
    have k1 : (0 : Int) ≤ (k : Int) := by omega
    have k2 : (k : Int) < (n : Int) := by omega
    have C := HEI.out w2 (n : Int) (Below.refl _ _)
    rw [HF.out] at C
    clear HF hat hla cx0 hx hk h0
    cases hq : (x == 13) with
    | true =>
      rw [hq] at C
      go_wp2_with fail
      refine C.mono ?_
      rintro e w3 ⟨rfl, b3⟩
      clear C
      have HB3 : Hid (Below w2.heap.size w2 w3) := b3
      have C := HEI.out w3 ((n : Int) + 1) b3
      rw [HBH.out] at C
      clear b3
      go_wp2_with fail
      refine C.mono ?_
      rintro e w4 ⟨rfl, b4⟩
      clear C
      have HB4 : Hid (Below w2.heap.size w2 w4) := HB3.out.trans (b4.mono HB3.out.size)
      have C := HAW.out w4 HB4.out
      clear b4 HB3
      go_wp2_with fail
      refine C.mono ?_
      rintro e w5 ⟨rfl, b5⟩
      clear C
      have HB5 : Hid (Below w2.heap.size w2 w5) := HB4.out.trans (b5.mono HB4.out.size)
      clear b5 HB4
      go_wp2
      go_ret
      exact ⟨rfl, HB2.out.trans (HB5.out.mono HB2.out.size)⟩
    | false =>
      rw [hq] at C
      go_wp2_with fail
      refine C.mono ?_
      rintro e w3 ⟨rfl, b3⟩
      clear C
      have HB3 : Hid (Below w2.heap.size w2 w3) := b3
      have C := HEI.out w3 ((n : Int) + 1) b3
      rw [HBH.out] at C
      clear b3
      go_wp2_with fail
      refine C.mono ?_
      rintro e w4 ⟨rfl, b4⟩
      clear C
      have HB4 : Hid (Below w2.heap.size w2 w4) := HB3.out.trans (b4.mono HB3.out.size)
      have C := HAW.out w4 HB4.out
      clear b4 HB3
      go_wp2_with fail
      refine C.mono ?_
      rintro e w5 ⟨rfl, b5⟩
      clear C
      have HB5 : Hid (Below w2.heap.size w2 w5) := HB4.out.trans (b5.mono HB4.out.size)
      clear b5 HB4
      go_wp2
      go_ret
      exact ⟨rfl, HB2.out.trans (HB5.out.mono HB2.out.size)⟩

set_option maxHeartbeats 4000000 in
set_option maxRecDepth 1000000 in
theorem nobody_walk (v : Value) (l : List Int) (i r : Int) (w : World) (h : ArgC w v l) (E : Env w) : Calls Tryz.prog 8 #[v, .int .i64 i, .int .i64 r] w fun e w' => e = .returned (.bool true) ∧ Below w.heap.size w w' := by
  have HE : Hid (Env w) := E
  have HV : Hid (IV w v l) := h.iv
  obtain ⟨ao, cap, rfl, _, _, hc1, hc2, _⟩ := h
  have hN : l.length ≤ 9223372036854775807 := by omega
  clear E
  go_enter Tryz.func8, Tryz.ntmps8
  go_wp2
  have HB : Hid (Below w.heap.size w ((w.alloc (.cells #[.pointer none, .slice none 0 0, .pointer none, .slice none 0 0, .pointer none, .slice none 0 0, .pointer none, .slice none 0 0, .pointer none, .slice none 0 0, .map none, .map none, .map none, .map none] 49)).alloc (.cells #[.pointer none, .pointer (some ⟨w.heap.size, 0, none⟩)] 23))) := ((Below.refl _ w).alloc (Nat.le_refl _) _).alloc (by simp) _
  have nb0 : ((w.alloc (.cells #[.pointer none, .slice none 0 0, .pointer none, .slice none 0 0, .pointer none, .slice none 0 0, .pointer none, .slice none 0 0, .pointer none, .slice none 0 0, .map none, .map none, .map none, .map none] 49)).alloc (.cells #[.pointer none, .pointer (some ⟨w.heap.size, 0, none⟩)] 23)).heap[w.heap.size]? = some (.cells #[.pointer none, .slice none 0 0, .pointer none, .slice none 0 0, .pointer none, .slice none 0 0, .pointer none, .slice none 0 0, .pointer none, .slice none 0 0, .map none, .map none, .map none, .map none] 49 (0, 0)) := by
    rw [Below.heap_alloc _ _ _ (by simp)]; exact World.alloc_heap_new _ _
  have nb1 : ((w.alloc (.cells #[.pointer none, .slice none 0 0, .pointer none, .slice none 0 0, .pointer none, .slice none 0 0, .pointer none, .slice none 0 0, .pointer none, .slice none 0 0, .map none, .map none, .map none, .map none] 49)).alloc (.cells #[.pointer none, .pointer (some ⟨w.heap.size, 0, none⟩)] 23)).heap[w.heap.size + 1]? = some (.cells #[.pointer none, .pointer (some ⟨w.heap.size, 0, none⟩)] 23 (0, 0)) := heap_alloc2_new _ _ _
  generalize (w.alloc (.cells #[.pointer none, .slice none 0 0, .pointer none, .slice none 0 0, .pointer none, .slice none 0 0, .pointer none, .slice none 0 0, .pointer none, .slice none 0 0, .map none, .map none, .map none, .map none] 49)).alloc (.cells #[.pointer none, .pointer (some ⟨w.heap.size, 0, none⟩)] 23) = W at *
  have d0 := cell_of_row W (w.heap.size + 1) 0 _ _ _ nb1
  have d1 := cell_of_row W (w.heap.size + 1) 1 _ _ _ nb1
  have d2 := cell_of_row W w.heap.size 0 _ _ _ nb0
  simp at d0 d1 d2
  have U1 : Hid (Unmade W (.pointer none)) := .inl rfl
  have U2 : Hid (Unmade W (.pointer (some ⟨w.heap.size, 0, none⟩))) := .inr ⟨_, rfl, d2⟩
  clear nb0 nb1 d2
  refine wp_loop_rounds 3 ?_
  rw [rounds_succ]
  have C := edge_no (.pointer none) (.slice ao l.length cap) i W U1.out
  go_wp2_with fail
  refine C.mono ?_
  rintro e w1 ⟨rfl, hw⟩
  rw [hw]
  clear C hw w1
  have C := simple_no (.pointer none) ao l.length cap l i W U1.out (HV.out.below HB.out) hN
  go_wp2_with fail
  refine C.mono ?_
  rintro e y1 ⟨rfl, hw⟩
  clear C
  have HBa : Hid (Below w.heap.size w y1) := HB.out.trans (hw.mono HB.out.size)
  have hww : Below W.heap.size W y1 := hw
  have Ua : Hid (Unmade y1 (.pointer none)) := U1.out.below hw
  clear hw
  have C := is_no (.pointer none) r y1 Ua.out
  go_wp2_with fail
  refine C.mono ?_
  rintro e y2 ⟨rfl, hw⟩
  clear C
  have HBb : Hid (Below w.heap.size w y2) := HBa.out.trans (hw.mono HBa.out.size)
  have U2b : Hid (Unmade y2 (.pointer (some ⟨w.heap.size, 0, none⟩))) := (U2.out.below (Below.refl _ W)).below (hww.trans (hw.mono hww.size))
  have d1b := cell_below (hww.trans (hw.mono hww.size)) d1
  clear hw hww d0 d1
  go_wp2
  rw [rounds_succ]
  have C := edge_no (.pointer (some ⟨w.heap.size, 0, none⟩)) (.slice ao l.length cap) i y2 U2b.out
  go_wp2_with fail
  refine C.mono ?_
  rintro e w1 ⟨rfl, hw⟩
  rw [hw]
  clear C hw w1
  have C := simple_no (.pointer (some ⟨w.heap.size, 0, none⟩)) ao l.length cap l i y2 U2b.out (HV.out.below HBb.out) hN
  go_wp2_with fail
  refine C.mono ?_
  rintro e y3 ⟨rfl, hw⟩
  clear C
  have HBc : Hid (Below w.heap.size w y3) := HBb.out.trans (hw.mono HBb.out.size)
  have Uc : Hid (Unmade y3 (.pointer (some ⟨w.heap.size, 0, none⟩))) := U2b.out.below hw
  clear hw
  have C := is_no (.pointer (some ⟨w.heap.size, 0, none⟩)) r y3 Uc.out
  go_wp2_with fail
  refine C.mono ?_
  rintro e y4 ⟨rfl, hw⟩
  clear C
  have HBd : Hid (Below w.heap.size w y4) := HBc.out.trans (hw.mono HBc.out.size)
  clear hw
  go_wp2
  rw [rounds_succ]
  have C := awake_any y4 (HE.out.below HBd.out)
  go_wp2_with fail
  refine C.mono ?_
  rintro e w1 ⟨rfl, hb⟩
  clear C
  go_wp2
  go_ret
  exact ⟨rfl, HBd.out.trans (hb.mono HBd.out.size)⟩
theorem kw_letters : ∀ d : Fin 26, kw (97 + (d.val : Int)) = 9 ∧ isW (97 + (d.val : Int)) = true := by decide +kernel
theorem mod26 (x : Int) : ∃ d : Nat, d < 26 ∧ Int.tmod (IntKind.u64.wrap x) 26 = (d : Int) := by
  have hu : 0 ≤ IntKind.u64.wrap x := by simp [IntKind.wrap, IntKind.signed, IntKind.bits]; omega
  rw [Int.tmod_eq_emod_of_nonneg hu]
  generalize IntKind.u64.wrap x = y at *
  exact ⟨(y % 26).toNat, by omega, by omega⟩
theorem sim_letters {l : List Int} {n : Nat} (h : ∀ x ∈ l, isW x = true) (hn : n < l.length) : simF isW l (n : Int) = ((n : Int) == 0) := by
  have g : ∀ k, k < l.length → isW (l.getD k 0) = true := fun k hk => by
    rw [List.getD_eq_getElem?_getD, List.getElem?_eq_getElem hk]
    exact h _ (List.getElem_mem hk)
  unfold simF
  rw [if_neg (by omega), decide_eq_true (show (n : Int) < l.length by omega), Bool.true_and, Int.toNat_natCast, g n hn]
  rcases Nat.eq_zero_or_pos n with h0 | h0
  · subst h0; rfl
  · rw [decide_eq_true (show 0 < (n : Int) by omega), Bool.true_and, g _ (by omega), show ((n : Int) == 0) = false from by rw [beq_eq_false_iff_ne]; omega]
    rfl
theorem edge_letters {l : List Int} {n : Nat} (h : ∀ x ∈ l, kw x = 9) (hn : n < l.length) : edgeW l (n : Int) = ((n : Int) == 0) := by
  rcases Nat.eq_zero_or_pos n with h0 | h0
  · subst h0; exact edge_zero hn
  · rw [letters_mid h h0 hn, show ((n : Int) == 0) = false from by rw [beq_eq_false_iff_ne]; omega]
theorem infoI : (Tryz.prog.info? 3).map (fun i => (i.zero, i.size, i.bytes)) = some (some (.int .i64 0), 1, 8) := by kernel_rfl
theorem io_snoc {w : World} {B : Nat} {v : Value} {l : List Int} {x : Int} (h : w.ownsRow B 3 1 v (l.length + 1) (l.map (Value.int .i64) ++ [.int .i64 x])) : IOwn w B v (l ++ [x]) := by
  unfold IOwn
  rw [List.length_append, List.map_append]
  exact h
/-- Letters alone. -/
def Lets (l : List Int) : Prop := ∀ x ∈ l, kw x = 9 ∧ isW x = true ∧ okI x
set_option maxHeartbeats 4000000 in
set_option maxRecDepth 1000000 in
theorem letters_walk (v : Value) (l : List Int) (w : World) (h : ArgC w v l) (E : Env w) : Calls Tryz.prog 5 #[v] w fun e w' => e = .returned (.bool true) ∧ Below w.heap.size w w' := by
  have HE : Hid (Env w) := E
  have HA : Hid (ArgC w v l) := h
  obtain ⟨ao, cap, rfl, hcells, hok, hcap, hmax, hnil⟩ := h
  obtain ⟨n, hn⟩ : ∃ n, min l.length 40 = n := ⟨_, rfl⟩
  have hnl : n ≤ l.length := by omega
  have hn40 : n ≤ 40 := by omega
  have HV : Hid (IV w (.slice ao n cap) (l.take n)) := HA.out.take n hnl
  have C := load_any w E
  have hmin : min (l.length : Int) 40 = (n : Int) := by omega
  have hmin2 : (if (l.length : Int) < 40 then (l.length : Int) else 40) = (n : Int) := by split <;> omega
  have hmin3 : (if (40 : Int) < (l.length : Int) then 40 else (l.length : Int)) = (n : Int) := by split <;> omega
  have hmin4 : (if (l.length : Int) ≤ 40 then (l.length : Int) else 40) = (n : Int) := by split <;> omega
  have hncap : (n : Int) ≤ (cap : Int) := by omega
  have hn0 : (0 : Int) ≤ (n : Int) := by omega
  generalize hLN : l.take n = LN at *
  generalize l.length = ll at *
  obtain ⟨i0, hi, hz0, hy1, hz2⟩ := info_parts infoI
  clear hcells hok hLN HA E hnil hn
  go_enter Tryz.func5, Tryz.ntmps5
  go_wp2_with fail
  refine C.mono ?_
  rintro e w1 ⟨t, rfl, ht, b1⟩
  clear C
  have HT1 : Hid (Tabs w1 t) := ht
  have HB1 : Hid (Below w.heap.size w w1) := b1
  have HO1 : Hid (IOwn w1 w1.heap.size (.slice none 0 0) []) := ⟨rfl, .inl ⟨rfl, rfl⟩⟩
  clear ht b1
  go_wp2
  go_loopw [4, 16] (fun u i wr => ∃ (k : Nat) (ml : List Int), k ≤ n ∧ ml.length = k ∧ Hid (Lets ml) ∧ i = .int .i64 (k : Int) ∧ Hid (IOwn wr w1.heap.size u ml) ∧ Hid (Below w1.heap.size w1 wr)) (fun _ i _ => n - (RowKit.intOf i).toNat)
  case atStart => exact ⟨0, [], by omega, rfl, fun x hx => (by cases hx), rfl, HO1, Below.refl _ _⟩
  case round =>
    clear HO1
    obtain ⟨k, ml, hk, hml, HLE, rfl, HO, HB⟩ := hrel
    by_cases hkn : (k : Int) < (n : Int)
    · obtain ⟨hll, hat⟩ := iv_cells HV.out
      obtain ⟨x, b, o, rfl, cx0, hx⟩ := hat k (by omega)
      have cx := cell_below (HB1.out.trans (HB.out.mono HB1.out.size)) cx0
      obtain ⟨ya, yc, rfl⟩ := own_slice HO.out
      obtain ⟨d, hd, hmod⟩ := mod26 x
      have HKL : Hid (kw (97 + (d : Int)) = 9 ∧ isW (97 + (d : Int)) = true ∧ okI (97 + (d : Int))) := ⟨(kw_letters ⟨d, hd⟩).1, (kw_letters ⟨d, hd⟩).2, by unfold okI; omega⟩
      have u4 : IntKind.u64.wrap (d : Int) = (d : Int) := by rw [IntKind.wrap_u64]; omega
      have u5 : IntKind.i64.wrap (d : Int) = (d : Int) := by rw [IntKind.wrap_i64]; omega
      have u6 : IntKind.i64.wrap (97 + (d : Int)) = 97 + (d : Int) := by rw [IntKind.wrap_i64]; omega
      have hk0 : (0 : Int) ≤ (k : Int) := by omega
      have hs1 := HB.out.size
      have hmb : ml.length ≤ 1000 := by omega
      have HML : Hid (ml.length = k) := hml
      have wk : IntKind.i64.wrap ((k : Int) + 1) = ((k + 1 : Nat) : Int) := by rw [IntKind.wrap_i64]; omega
      clear hat hll hx cx0 hml hd
      go_wp2_with (at_builtin; refine wpList_append_own _ rfl _ _ 22 rfl w1.heap.size 3 i0 (.int .i64 0) 1 8 Tryz.underlying22 hi hz0 hy1 hz2 rfl (by decide) _ _ _ rfl (HO.out.alloc _) ⟨wr.heap.size, 0, none⟩ 1 1 [.int .i64 (97 + (d : Int))] rfl rfl (cell_one_new _ _ _) ?c2 ?c3 ?c4 ?c5 ?_)
      case c2 => first | (intro u hu; simp at hu; subst hu; rfl) | simp [Value.oneCell']
      case c3 => unfold maxLen; omega
      case c4 => omega
      case c5 => first | omega | (simp; omega)
      intro v' w5 hown5 hgrow _
      have R2 : Hid (Below w1.heap.size w1 w5) := Below.grown (HB.out.alloc hs1 _) hgrow (by simp; omega) (fun k e => (HO.out.lt k e).1)
      have R1 : Hid (IOwn w5 w1.heap.size v' (ml ++ [97 + (d : Int)])) := io_snoc hown5
      have R3 : Hid (Lets (ml ++ [97 + (d : Int)])) := fun y hy => by
        rcases List.mem_append.1 hy with hy | hy
        · exact HLE.out y hy
        · rw [List.mem_singleton.1 hy]; exact HKL.out
      obtain ⟨xa', xc', rfl⟩ := own_slice hown5
      clear hown5 hgrow HO HB cx
      go_wp2
      exact ⟨⟨k + 1, ml ++ [97 + (d : Int)], by omega, by rw [List.length_append, HML.out]; rfl, R3, by first | rfl | simp, R1, R2⟩, by simp [RowKit.intOf]; omega⟩
    · have hkn2 : k = n := by omega
      obtain ⟨ya, yc, hu, htx⟩ := iown_txt HO.out hml (fun x hx => (HLE.out x hx).2.2) (by omega)
      have hus := hu
      subst hu
      have HTX : Hid (Txt wr ya k yc ml) := htx
      have HL9 : Hid (∀ x ∈ ml, kw x = 9) := fun x hx => (HLE.out x hx).1
      have HLI : Hid (∀ x ∈ ml, isW x = true) := fun x hx => (HLE.out x hx).2.1
      have HML : Hid (ml.length = k) := hml
      have HBr : Hid (Below w1.heap.size w1 wr) := HB.out
      have hk60 : k ≤ 60 := by omega
      clear hml htx HLE HO HB hkn2
      have HBW : Hid (Below w.heap.size w wr) := HB1.out.trans (HBr.out.mono HB1.out.size)
      have HTr : Hid (Tabs wr t) := HT1.out.below HBr.out
      generalize hWR : wr = W0 at *
      clear hWR
      go_wp2
      go_loopw [31] (fun i wz => ∃ j : Nat, j ≤ k ∧ i = .int .i64 (j : Int) ∧ Hid (Below W0.heap.size W0 wz)) (fun i _ => k - (RowKit.intOf i).toNat)
      case atStart => exact ⟨0, by omega, rfl, Below.refl _ _⟩
      case round =>
        obtain ⟨j, hj, rfl, HB⟩ := hrel
        by_cases hjk : (j : Int) < (k : Int)
        · have C := edge_t t ya k yc ml (j : Int) wr (HTr.out.below HB.out) (HTX.out.below HB.out)
          rw [edge_letters HL9.out (by rw [HML.out]; omega)] at C
          have HS : Hid (∀ V, Below W0.heap.size W0 V → Calls Tryz.prog 16 #[.pointer (some ⟨t, 0, none⟩), .slice ya k yc, .int .i64 (j : Int)] V fun e w' => e = .returned (.bool ((j : Int) == 0)) ∧ Below V.heap.size V w') := fun V hb => by
            rw [← sim_letters HLI.out (by rw [HML.out]; omega)]
            exact simple_t t ya k yc ml (j : Int) V (HTr.out.below hb) (HTX.out.below hb)
          have wj : IntKind.i64.wrap ((j : Int) + 1) = ((j + 1 : Nat) : Int) := by rw [IntKind.wrap_i64]; omega
          cases hZ : ((j : Int) == 0) with
          | true =>
            rw [hZ] at C HS
            go_wp2_with fail
            refine C.mono ?_
            rintro e x1 ⟨rfl, bx⟩
            clear C
            have HB4 : Hid (Below W0.heap.size W0 x1) := HB.out.trans (bx.mono HB.out.size)
            have C := HS.out x1 HB4.out
            clear HB bx HS
            go_wp2_with fail
            refine C.mono ?_
            rintro e x2 ⟨rfl, bx⟩
            clear C
            have HB5 : Hid (Below W0.heap.size W0 x2) := HB4.out.trans (bx.mono HB4.out.size)
            clear HB4 bx
            go_wp2
            exact ⟨⟨j + 1, by omega, by first | rfl | simp, HB5⟩, by simp [RowKit.intOf]; omega⟩
          | false =>
            rw [hZ] at C HS
            go_wp2_with fail
            refine C.mono ?_
            rintro e x1 ⟨rfl, bx⟩
            clear C
            have HB4 : Hid (Below W0.heap.size W0 x1) := HB.out.trans (bx.mono HB.out.size)
            have C := HS.out x1 HB4.out
            clear HB bx HS
            go_wp2_with fail
            refine C.mono ?_
            rintro e x2 ⟨rfl, bx⟩
            clear C
            have HB5 : Hid (Below W0.heap.size W0 x2) := HB4.out.trans (bx.mono HB4.out.size)
            clear HB4 bx
            go_wp2
            exact ⟨⟨j + 1, by omega, by first | rfl | simp, HB5⟩, by simp [RowKit.intOf]; omega⟩
        · have HBZ : Hid (Below w.heap.size w wr) := HBW.out.trans (HB.out.mono HBW.out.size)
          have C := awake_any wr (HE.out.below HBZ.out)
          clear HB
          go_wp2_with fail
          refine C.mono ?_
          rintro e x2 ⟨rfl, bx⟩
          clear C
          have HB5 : Hid (Below w.heap.size w x2) := HBZ.out.trans (bx.mono HBZ.out.size)
          clear HBZ bx
          go_wp2
          go_ret
          exact ⟨rfl, HB5.out⟩
end Go.Proofs.YtcmhkfiijdomiaaGreatDoor.wrd
end
