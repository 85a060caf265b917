/- Texts that the proof leans on, one behind the other. -/
import Derived.Test.YtinlolmjafjhnaaGreatDoorBdPrp1
import Derived.Test.YtinlolmjafjhnaaGreatDoorBdLin4
import Derived.Test.YtinlolmjafjhnaaGreatDoorBdLin3
import Derived.Test.YtinlolmjafjhnaaGreatDoorBdLin5
import Derived.Test.YtinlolmjafjhnaaGreatDoorBdNam1

section
/- strings.FieldsSeq over ASCII text: its closure gives the words. -/
set_option linter.unusedVariables false
set_option linter.unusedSimpArgs false
namespace Go.Proofs.YtinlolmjafjhnaaGreatDoor.prp
open Go.RowKit Go.Shelf lin
attribute [local go_sem] Oper.semAt_some

def isSp (c : UInt8) : Bool := decide ((9 ≤ c.toNat ∧ c.toNat ≤ 13) ∨ c.toNat = 32)
/-- The words of a text, cur the letters of one that has begun. -/
def wds : List UInt8 → List UInt8 → List (List UInt8)
 | cur, [] => if cur = [] then [] else [cur]
 | cur, c :: l => if isSp c then (if cur = [] then wds [] l else cur :: wds [] l) else wds (cur ++ [c]) l
def wordsB (s : ByteArray) : List ByteArray := (wds [] s.data.toList).map BA
def asciiB (s : ByteArray) : Prop := ∀ i (h : i < s.size), (s[i]'h).toNat < 128

theorem FieldsSeq_any (s : ByteArray) (w : World) :
  Calls Tryz.prog 87 #[.string s] w fun e w' => e = .returned (.func (.func 122) #[] #[.pointer (some ⟨w.heap.size, 0, none⟩)]) ∧ w' = w.alloc (.cells #[.string s] 9) := by
 go_enter Tryz.func87, Tryz.ntmps87
 go_wp2
 go_ret
 exact ⟨rfl, rfl⟩

set_option maxHeartbeats 2000000 in
set_option maxRecDepth 100000 in
theorem fields_gives (n c lo : Nat) (s : ByteArray) (w : World) (hs : s.size ≤ 1099511627776) (ha : asciiB s) (hc : Boxed w c 9 (.string s)) (hlo : lo ≤ c) :
  GivesQ Env n Tryz.prog 122 #[.pointer (some ⟨c, 0, none⟩)] (fun x => #[.string x]) (wordsB s) c lo w.heap.size w := by
 intro l J Jx W hW hE hJ hY h0
 have hlt := hc.lt
 have hcW : Boxed W c 9 (.string s) := (hW.block c hlt).trans hc
 refine callsIn_of_wp Tryz.func122 rfl trivial ?_ rfl
 simp only [Tryz.ntmps122, List.size_toArray, List.length_cons, List.length_nil, Nat.reduceAdd, Nat.reduceSub, Array.replicate_succ, Array.replicate_zero, List.push_toArray, List.append_toArray, List.nil_append, List.cons_append]
 gi_wp2
 gi_loopg [3, 4] s.size (fun k v i wr => ∃ (p st : Nat) (on : Bool) (pre : List ByteArray), k = s.size - p ∧ p ≤ s.size ∧ (on = true → st < p) ∧ v = .int .i64 (if on then (st : Int) else -1) ∧ i = .int .i64 p ∧
  Hid (pre ++ (wds (if on then (s.data.toList.drop st).take (p - st) else []) (s.data.toList.drop p)).map BA = wordsB s) ∧ Boxed wr c 9 (.string s) ∧ J pre wr)
 case atStart => exact ⟨0, 0, false, [], by omega, Nat.zero_le _, fun h => (by cases h), rfl, rfl, rfl, hcW, h0⟩
 case round =>
  obtain ⟨p, st, on, pre, hgk, hp, hst, rfl, rfl, HX, hcr, hj⟩ := hrel
  have cs := hcr.cell
  by_cases hps : p < s.size
  ·have hps' : (p : Int) < (s.size : Int) := by omega
   have hd := drop_cons s p hps
   have hac := ha p hps
   have hsp := (hE pre wr hj).sp (s[p]'hps).toNat hac
   have hwd : ∀ cur, wds cur (s.data.toList.drop p) = if isSp (s[p]'hps) then (if cur = [] then wds [] (s.data.toList.drop (p + 1)) else cur :: wds [] (s.data.toList.drop (p + 1))) else wds (cur ++ [s[p]'hps]) (s.data.toList.drop (p + 1)) := fun cur => by rw [hd]; rfl
   have his : isSp (s[p]'hps) = decide ((9 ≤ (s[p]'hps).toNat ∧ (s[p]'hps).toNat ≤ 13) ∨ (s[p]'hps).toNat = 32) := rfl
   have h128 : ¬ (128 : Int) ≤ ((s[p]'hps).toNat : Int) := by omega
   have wp1 : IntKind.i64.wrap ((p : Int) + 1) = (p : Int) + 1 := by rw [IntKind.wrap_i64]; omega
   by_cases hsb : (9 ≤ (s[p]'hps).toNat ∧ (s[p]'hps).toNat ≤ 13) ∨ (s[p]'hps).toNat = 32
   ·have hsp1 : wr.cell? ⟨0, (s[p]'hps).toNat, none⟩ = some (.int .u8 1) := by rw [hsp]; unfold spB; rw [if_pos hsb]
    rw [decide_eq_true hsb] at his
    rw [hwd, if_pos his] at HX
    clear hsp hwd his hd hac
    cases on with
    | false =>
     have HX2 : Hid (pre ++ (wds (if false then (s.data.toList.drop st).take (p + 1 - st) else []) (s.data.toList.drop (p + 1))).map BA = wordsB s) := HX.out
     clear HX hsb
     generalize hr : (s[p]'hps).toNat = r at *
     gi_wp2
     gi_roundg (s.size - (p + 1))
     case measure => omega
     case rel => exact ⟨p + 1, st, false, pre, rfl, by omega, fun h => (by cases h), rfl, by first | rfl | simp, HX2, hcr, hj⟩
    | true =>
     have hst' := hst rfl
     have hne : (s.data.toList.drop st).take (p - st) ≠ [] := fun e => by
      have := congrArg List.length e
      rw [List.length_take, List.length_drop, size_list] at this
      simp at this
      omega
     have hxt : s.extract st p = BA ((s.data.toList.drop st).take (p - st)) := ext_list s st p
     have HX1 : wordsB s = pre ++ s.extract st p :: (wds [] (s.data.toList.drop (p + 1))).map BA := by
      rw [← HX.out, hxt]
      simp only [if_true]
      rw [if_neg hne]
      rfl
     obtain ⟨fn, tmps, assign, body, hy, hR⟩ := hY pre (s.extract st p) _ wr HX1 hj
     have HX2 : Hid ((pre ++ [s.extract st p]) ++ (wds (if false then (s.data.toList.drop st).take (p + 1 - st) else []) (s.data.toList.drop (p + 1))).map BA = wordsB s) := by rw [Hid, HX1]; simp
     clear HX HX1 hne hxt hsb
     have q1 : (0 : Int) ≤ (st : Int) := by omega
     have q2 : (st : Int) ≤ (p : Int) := by omega
     have q3 : (p : Int) ≤ (s.size : Int) := by omega
     generalize hX : s.extract st p = X at *
     generalize hr : (s[p]'hps).toNat = r at *
     gi_wp2
     refine ⟨wide_depth _, hR.mono ?_⟩
     rintro e W3 (⟨rfl, hJ3, hk3⟩ | ⟨rfl, hJx3⟩)
     ·have hc3 : Boxed W3 c 9 (.string s) := (hk3 c hlo hlt).trans hcr
      gi_wp2
      gi_roundg (s.size - (p + 1))
      case measure => omega
      case rel => exact ⟨p + 1, st, false, _, rfl, by omega, fun h => (by cases h), rfl, by first | rfl | simp, HX2, hc3, hJ3⟩
     ·gi_wp2
      refine bodyPost_ret (results_none rfl _ _ _) rfl ?_
      exact ⟨⟨_, rfl⟩, .inr ⟨_, hJx3⟩⟩
   ·have hsp1 : wr.cell? ⟨0, (s[p]'hps).toNat, none⟩ = some (.int .u8 0) := by rw [hsp]; unfold spB; rw [if_neg hsb]
    rw [decide_eq_false hsb] at his
    rw [hwd, if_neg (by rw [his]; decide)] at HX
    clear hsp hwd his hac
    cases on with
    | false =>
     have HX2 : Hid (pre ++ (wds (if true then (s.data.toList.drop p).take (p + 1 - p) else []) (s.data.toList.drop (p + 1))).map BA = wordsB s) := by
      rw [Hid, ← HX.out]
      simp only [if_true, Bool.false_eq_true, if_false]
      rw [show p + 1 - p = 1 from by omega, hd]
      rfl
     clear HX hsb hd
     generalize hr : (s[p]'hps).toNat = r at *
     gi_wp2
     gi_roundg (s.size - (p + 1))
     case measure => omega
     case rel => exact ⟨p + 1, p, true, pre, rfl, by omega, fun _ => by omega, rfl, by first | rfl | simp, HX2, hcr, hj⟩
    | true =>
     have hst' := hst rfl
     have HX2 : Hid (pre ++ (wds (if true then (s.data.toList.drop st).take (p + 1 - st) else []) (s.data.toList.drop (p + 1))).map BA = wordsB s) := by
      rw [Hid, ← HX.out]
      simp only [if_true]
      rw [take_snoc s st p hps (by omega)]
     have q4 : ¬ (st : Int) < 0 := by omega
     clear HX hsb hd
     generalize hr : (s[p]'hps).toNat = r at *
     gi_wp2
     gi_roundg (s.size - (p + 1))
     case measure => omega
     case rel => exact ⟨p + 1, st, true, pre, rfl, by omega, fun _ => by omega, rfl, by first | rfl | simp, HX2, hcr, hj⟩
  ·have hps' : ¬ (p : Int) < (s.size : Int) := by omega
   obtain rfl : p = s.size := by omega
   have hdn : s.data.toList.drop s.size = [] := List.drop_eq_nil_of_le (by simp)
   rw [hdn] at HX
   cases on with
   | false =>
    have HX2 : wordsB s = pre := by rw [← HX.out]; simp [wds]
    have HX3 : Hid (wordsB s = pre) := HX2
    clear HX HX2
    gi_wp2
    go_end0
    exact ⟨⟨_, rfl⟩, .inl (by rw [HX3.out]; exact hj)⟩
   | true =>
    have hst' := hst rfl
    have hne : (s.data.toList.drop st).take (s.size - st) ≠ [] := fun e => by
     have := congrArg List.length e
     rw [List.length_take, List.length_drop, size_list] at this
     simp at this
     omega
    have hxt : s.extract st s.size = BA ((s.data.toList.drop st).take (s.size - st)) := ext_list s st s.size
    have HX1 : wordsB s = pre ++ [s.extract st s.size] := by
     rw [← HX.out, hxt]
     simp only [if_true, wds]
     rw [if_neg hne]
     rfl
    obtain ⟨fn, tmps, assign, body, hy, hR⟩ := hY pre (s.extract st s.size) [] wr HX1 hj
    have HX3 : Hid (wordsB s = pre ++ [s.extract st s.size]) := HX1
    clear HX HX1 hne hxt
    have q1 : (0 : Int) ≤ (st : Int) := by omega
    have q2 : (st : Int) ≤ (s.size : Int) := by omega
    generalize hX : s.extract st s.size = X at *
    gi_wp2
    refine ⟨wide_depth _, hR.mono ?_⟩
    rintro e W3 (⟨rfl, hJ3, hk3⟩ | ⟨rfl, hJx3⟩)
    ·gi_wp2
     go_end0
     exact ⟨⟨_, rfl⟩, .inl (by rw [HX3.out]; exact hJ3)⟩
    ·gi_wp2
     go_end0
     exact ⟨⟨_, rfl⟩, .inr ⟨_, hJx3⟩⟩
end Go.Proofs.YtinlolmjafjhnaaGreatDoor.prp
end

section
/- props.codePoints: the code points of a field. -/
set_option linter.unusedVariables false
set_option linter.unusedSimpArgs false
namespace Go.Proofs.YtinlolmjafjhnaaGreatDoor.prp
open Go.RowKit Go.Shelf lin
attribute [local go_sem] Oper.semAt_some

theorem infoInt : (Tryz.prog.info? 3).map (fun i => (i.zero, i.size, i.bytes)) = some (some (.int .i64 0), 1, 8) := by kernel_rfl
/-- v is a row of numbers of the call's own. -/
def IOwn (w : World) (base : Nat) (v : Value) (xs : List Int) : Prop := w.ownsRow base 3 1 v xs.length (xs.map (Value.int .i64))
def pt (x : ByteArray) : List Int := if hexB x then [hexN x] else []
def pts (l : List ByteArray) : List Int := l.flatMap pt
theorem pts_snoc (l : List ByteArray) (x : ByteArray) : pts (l ++ [x]) = pts l ++ pt x := by simp [pts]
theorem pts_len (l : List ByteArray) : (pts l).length ≤ l.length := by
 induction l with
 | nil => simp [pts]
 | cons x l ih =>
  have : (pt x).length ≤ 1 := by unfold pt; split <;> simp
  simp only [pts, List.flatMap_cons, List.length_append, List.length_cons] at *
  omega
theorem wds_len : ∀ (l cur : List UInt8), (wds cur l).length ≤ l.length + 1
 | [], cur => by unfold wds; split <;> simp
 | c :: l, cur => by
  unfold wds
  have h1 := wds_len l []
  have h2 := wds_len l (cur ++ [c])
  (repeat' split) <;> simp <;> omega
theorem wds_size : ∀ (l cur : List UInt8), ∀ x ∈ wds cur l, x.length ≤ cur.length + l.length
 | [], cur, x, h => by
  unfold wds at h
  split at h
  ·cases h
  ·rw [List.mem_singleton.1 h]; simp
 | c :: l, cur, x, h => by
  unfold wds at h
  split at h
  ·split at h
   ·have := wds_size l [] x h; simp at this ⊢; omega
   ·rcases List.mem_cons.1 h with rfl | h
    ·simp
    ·have := wds_size l [] x h; simp at this ⊢; omega
  ·have := wds_size l (cur ++ [c]) x h; simp at this ⊢; omega

structure CI (w0 : World) (pre : List ByteArray) (W : World) : Prop where
 out : ∃ v, Boxed W w0.heap.size 37 v ∧ IOwn W (w0.heap.size + 4) v (pts pre)
 env : Env W
 low : Below w0.heap.size w0 W
theorem Env.turns {D : Nat → Prop} {A B : World} (h : Env A) (t : Turns D A B) {n : Nat} (hn : 6 < n ∧ 0 < n) (hd : ∀ k, D k → n ≤ k) : Env B := by
 obtain ⟨⟨m, hm⟩, hs⟩ := h
 have k : ∀ (p : Addr) v, p.block < n → A.cell? p = some v → B.cell? p = some v := fun p v hp h => by
  have := t.block p.block (World.block_lt_of_cell? A p h) (fun d => by have := hd _ d; omega)
  unfold World.cell? at h ⊢
  rw [this]; exact h
 exact ⟨⟨m, k _ _ hn.1 hm⟩, fun c hc => k _ _ hn.2 (hs c hc)⟩
theorem Env.glob {w : World} (h : Env w) : 6 < w.heap.size ∧ 0 < w.heap.size := by
 obtain ⟨⟨m, hm⟩, hs⟩ := h
 exact ⟨World.block_lt_of_cell? w _ hm, World.block_lt_of_cell? w _ (hs 0 (by decide))⟩
theorem CI.turns {w0 : World} {pre : List ByteArray} {A B : World} {D : Nat → Prop} (h : CI w0 pre A) (hg : 6 < w0.heap.size ∧ 0 < w0.heap.size) (t : Turns D A B) (hd : ∀ k, D k → w0.heap.size + 1 ≤ k ∧ k < w0.heap.size + 4) : CI w0 pre B := by
 obtain ⟨v, hv, hr⟩ := h.out
 exact ⟨⟨v, t.boxed hv (fun d => by have := hd _ d; omega), t.own hr (fun k e d => by have := (hr.lt k e).1; have := hd k d; omega)⟩, h.env.turns t hg (fun k d => by have := hd k d; omega), h.low.trans (t.below h.low.size (fun k d => by have := hd k d; omega))⟩

set_option maxRecDepth 1000000 in
set_option maxHeartbeats 2000000 in
theorem code_any (s : ByteArray) (w : World) (E : Env w) (hs : s.size ≤ 1000000) (ha : asciiB s) :
  Calls Tryz.prog 59 #[.string s] w fun e w' => ∃ v, e = .returned v ∧ IOwn w' w.heap.size v (pts (wordsB s)) ∧ Below w.heap.size w w' := by
 obtain ⟨i0, hi, hz0, hy1, hz2⟩ := info_parts infoInt
 have hg := E.glob
 refine callsIn_wide (n := 9) |>.1 ?_
 refine callsIn_of_wp_marks Tryz.func59 rfl trivial ?_ rfl
 simp only [Tryz.ntmps59, List.size_toArray, List.length_cons, List.length_nil, Nat.reduceAdd, Nat.reduceSub, Array.replicate_succ, Array.replicate_zero, List.push_toArray, List.append_toArray, List.nil_append, List.cons_append]
 gi_wp2
 refine ⟨trivial, (callsIn_wide.2 (FieldsSeq_any s _)).mono ?_⟩
 rintro e w' ⟨rfl, hw'⟩
 simp only [World.size_alloc, Nat.add_assoc, Nat.reduceAdd] at hw' ⊢
 gi_wp2
 obtain ⟨hsz, hB, b0, b1⟩ : w'.heap.size = w.heap.size + 2 ∧ Below w.heap.size w w' ∧ w'.heap[w.heap.size]? = some (.cells #[.slice none 0 0] 37 (0, 0)) ∧ w'.heap[w.heap.size + 1]? = some (.cells #[.string s] 9 (0, 0)) := by
  subst hw'
  refine ⟨by simp, ((Below.refl _ w).alloc (Nat.le_refl _) _).alloc (by simp) _, ?_, ?_⟩
  ·exact (Below.heap_alloc _ _ _ (by simp)).trans (World.alloc_heap_new w _)
  ·have := World.alloc_heap_new (w.alloc (.cells #[.slice none 0 0] 37)) (.cells #[.string s] 9); rwa [World.size_alloc] at this
 clear hw'
 refine range_ownQ (R := Env) (c := w.heap.size + 1) (lo := w.heap.size + 1) rfl (enters_of Tryz.func122 (by kernel_rfl) rfl) (by omega) (by omega) (fields_gives _ (w.heap.size + 1) (w.heap.size + 1) s w' (by omega) ha b1 (Nat.le_refl _)) (fun _ => rfl)
  (CI w) (fun _ _ => False) (fun _ A h => h.env) (fun _ A B h t => h.turns hg t (fun k d => by omega)) (fun _ A B h t => h)
  ⟨⟨_, b0, World.ownsRow_nil _ _ _ _⟩, E.below (hB), hB⟩
  (fun x => { tmps := #[.string s, undef, .slice none 0 0, .pointer (some ⟨w.heap.size, 0, none⟩), .string x, undef, undef, .string s,
   .func (.func 122) #[] #[.pointer (some ⟨w.heap.size + 1, 0, none⟩)], .string x, undef, undef, undef, undef, undef, undef, undef, undef, undef, undef, undef], defers := [] }) ?assign ?body ?done ?stop
 case assign =>
  intro l x W K hK
  gi_wp2
  exact hK
 case body =>
  intro l pre x rest W hx hI hge
  have hxm : x ∈ wordsB s := by rw [hx]; simp
  have hxs : x.size ≤ s.size := by
   obtain ⟨y, hy, rfl⟩ := List.mem_map.1 hxm
   have := wds_size _ _ y hy
   rw [size_list] at this
   rw [BA_size]
   simpa using this
  have hpl : pre.length ≤ s.size + 1 := by
   have h1 := wds_len s.data.toList []
   rw [size_list] at h1
   have h2 : (wordsB s).length = pre.length + (rest.length + 1) := by rw [hx]; simp
   unfold wordsB at h2
   rw [List.length_map] at h2
   omega
  have hpp := pts_len pre
  obtain ⟨v, hv, ho⟩ := hI.out
  gi_wp2
  refine ⟨trivial, (CallsIn.inRound l (callsIn_wide.2 (hex_any x _ (by omega)))).mono ?_⟩
  rintro e W2 ⟨rfl, hbel⟩
  have hs2 := hbel.size
  have hv2 : Boxed W2 w.heap.size 37 v := (hbel.block _ hv.lt).trans hv
  have ho2 : IOwn W2 (w.heap.size + 4) v (pts pre) := own_below ho hbel
  have low2 := hI.low.trans (hbel.mono hI.low.size)
  have env2 := hI.env.below hbel
  have hlow := hI.low.size
  have tn : Turns (fun k => k = w.heap.size ∨ w.heap.size + 4 ≤ k) W W2 := .of_below hbel
  cases hb : hexB x with
  | false =>
   have HG : Hid (Keep (w.heap.size + 1) (w'.heap.size + 2) W W2 ∧ CI w (pre ++ [x]) W2) := by
    refine ⟨tn.keep hge (fun k h => by omega), ⟨⟨v, hv2, ?_⟩, env2, low2⟩⟩
    rw [pts_snoc, show pt x = [] from by unfold pt; rw [hb]; rfl, List.append_nil]; exact ho2
   clear hxm hx hI hv ho
   gi_wp2
   exact HG.out
  | true =>
   have HPT : Hid (pts (pre ++ [x]) = pts pre ++ [hexN x]) := by rw [Hid, pts_snoc, show pt x = [hexN x] from by unfold pt; rw [hb]; rfl]
   have HOW : Hid (∀ k, v.ownBlock = some k → w.heap.size + 4 ≤ k) := fun k e => (ho2.lt k e).1
   have HO : Hid (W2.ownsRow (w.heap.size + 4) 3 1 v (pts pre).length ((pts pre).map (Value.int .i64))) := ho2
   have BV : Hid (Boxed W2 w.heap.size 37 v) := hv2
   obtain ⟨va, vc, rfl⟩ := own_slice ho2
   have cv := hv2.cell
   generalize hexN x = hn at *
   generalize hnn : (pts pre).length = n at *
   have HNN : Hid ((pts pre).length = n) := hnn
   clear hnn
   clear hxm hx hI hv ho ho2 hv2 hb hbel
   gi_wp2_with (gi_at_builtin; refine wpListIn_append_own _ rfl _ _ 37 rfl (w.heap.size + 4) 3 i0 (.int .i64 0) 1 8 Tryz.underlying37 hi hz0 hy1 hz2 rfl (by decide) _ _ _ rfl (HO.out.alloc _) ⟨W2.heap.size, 0, none⟩ 1 1 [.int .i64 hn] rfl rfl (cell_one_new _ _ _) (by simp [Value.oneCell']) (by unfold maxLen; omega) (by omega) (by simp; omega) ?_)
   intro v' w4 hown4 hgrow _
   obtain ⟨va', vc', rfl⟩ := own_slice hown4
   have v4 : Boxed w4 w.heap.size 37 (.slice va n vc) := (BV.out.alloc _).kept hgrow (fun e => by have := HOW.out _ e.symm; omega)
   have HR : Hid (Keep (w.heap.size + 1) (w'.heap.size + 2) W (w4.setCell ⟨w.heap.size, 0, none⟩ (.slice va' (n + 1) vc')) ∧ CI w (pre ++ [x]) (w4.setCell ⟨w.heap.size, 0, none⟩ (.slice va' (n + 1) vc'))) := by
    have tA : Turns (fun k => k = w.heap.size ∨ w.heap.size + 4 ≤ k) W2 (w4.setCell ⟨w.heap.size, 0, none⟩ (.slice va' (n + 1) vc')) :=
     (((Turns.refl _ W2).alloc _).trans (.of_grown hgrow (fun k e => .inr (HOW.out k e)))).set w.heap.size _ (.inl rfl)
    have t5 := tn.trans tA
    refine ⟨t5.keep hge (fun k h => by omega), ⟨⟨_, v4.set _, ?_⟩, env2.turns tA hg (fun k d => by omega), low2.trans (tA.below low2.size (fun k d => by omega))⟩⟩
    have tS : Turns (fun k => k = w.heap.size) w4 (w4.setCell ⟨w.heap.size, 0, none⟩ (.slice va' (n + 1) vc')) := Turns.set (D := fun k => k = w.heap.size) (Turns.refl _ w4) w.heap.size _ rfl
    unfold IOwn
    rw [HPT.out, List.length_append, List.length_singleton, List.map_append]
    refine tS.own (n := (pts pre).length + 1) ?_ (fun k e d => by have := (hown4.lt k e).1; omega)
    rw [HNN.out]
    exact hown4
   have c4 := v4.cell
   have f4 := v4.frozen
   clear hgrow hown4 v4 low2 tn
   gi_wp2
   exact HR.out
 case done =>
  intro W hI hd
  obtain ⟨v, hv, hr⟩ := hI.out
  have HT : Hid (IOwn (W.putObj w'.heap.size (.deferred none)) w.heap.size v (pts (wordsB s)) ∧ Below w.heap.size w (W.putObj w'.heap.size (.deferred none))) := by
   have tp : Turns (fun k => k = w'.heap.size) W (W.putObj w'.heap.size (.deferred none)) := Turns.put (D := fun k => k = w'.heap.size) (Turns.refl _ W) w'.heap.size _ rfl
   exact ⟨own_lower (tp.own hr (fun k e d => by have := (hr.lt k e).1; omega)) (by omega), hI.low.trans (tp.below hI.low.size (fun k d => by omega))⟩
  obtain ⟨va, vc, rfl⟩ := own_slice hr
  have c3 := hv.cell
  clear hI hv hr
  gi_wp2
  refine ⟨by simp, .inl ⟨_, _, rfl, run_takeDeferred hd, ?_⟩⟩
  refine ⟨_, results_tmp (t := 2) rfl _ _ _, _, rfl, HT.out⟩
 case stop =>
  intro pre W hI hd
  exact hI.elim
end Go.Proofs.YtinlolmjafjhnaaGreatDoor.prp
end

section
/- Maps of lists of numbers: what code points are made of, what they fold to. -/
set_option linter.unusedVariables false
set_option linter.unusedSimpArgs false
namespace Go.Proofs.YtinlolmjafjhnaaGreatDoor.prp
open Go.RowKit Go.Maps lin
open Go.Proofs.YtinlolmjafjhnaaGreatDoor.nam (KeyE Mp upd)

/-- v is a slice of the numbers xs. -/
def IV (w : World) (v : Value) (xs : List Int) : Prop := ∃ a c, v = .slice a xs.length c ∧ (0 < xs.length → ∃ b o, a = some ⟨b, o, none⟩ ∧ ∀ j, j < xs.length → w.cell? ⟨b, o + j, none⟩ = some (.int .i64 (xs.getD j 0)))
theorem IV.below {w w' : World} {v : Value} {xs : List Int} (h : IV w v xs) (hb : Below w.heap.size w w') : IV w' v xs := by
 obtain ⟨a, c, rfl, hv⟩ := h
 refine ⟨a, c, rfl, fun h0 => ?_⟩
 obtain ⟨b, o, rfl, hc⟩ := hv h0
 exact ⟨b, o, rfl, fun j hj => (hb.cell (World.block_lt_of_cell? w _ (hc j hj))).trans (hc j hj)⟩
theorem IV.turns {D : Nat → Prop} {w w' : World} {v : Value} {xs : List Int} (h : IV w v xs) (t : Turns D w w') (hd : ∀ k, D k → ∃ es cl, w.heap[k]? = some (.map es cl)) : IV w' v xs := by
 obtain ⟨a, c, rfl, hv⟩ := h
 refine ⟨a, c, rfl, fun h0 => ?_⟩
 obtain ⟨b, o, rfl, hc⟩ := hv h0
 refine ⟨b, o, rfl, fun j hj => ?_⟩
 have h := hc j hj
 have := t.block b (World.block_lt_of_cell? w _ h) (fun d => by
  obtain ⟨es, cl, he⟩ := hd b d
  unfold World.cell? at h
  simp [he] at h)
 unfold World.cell? at h ⊢
 rw [this]
 exact h
theorem IOwn.iv {w : World} {base : Nat} {v : Value} {xs : List Int} (h : IOwn w base v xs) : IV w v xs := by
 rcases h.2 with hn | ⟨g, cap, cur, rfl, hg, hgg, h3, h4, h5, h6⟩
 ·obtain ⟨rfl, h0⟩ := hn
  exact ⟨none, 0, by rw [h0], fun h => by omega⟩
 ·refine ⟨_, _, rfl, fun _ => ⟨g, 0, rfl, fun j hj => ?_⟩⟩
  rw [Nat.zero_add, cell_of_row w g j cur _ _ hgg, ← Array.getElem?_toList, ← List.getElem?_take_of_lt (show j < xs.length * 1 by omega), h6, List.getElem?_map, List.getElem?_eq_getElem hj, List.getD_eq_getElem?_getD, List.getElem?_eq_getElem hj]
  rfl
theorem iclone_any (v : Value) (xs : List Int) (w : World) (h : IV w v xs) (hn : xs.length ≤ 1000000) :
  Calls Tryz.prog 89 #[v] w fun e w' => ∃ v', e = .returned v' ∧ IOwn w' w.heap.size v' xs ∧ Below w.heap.size w w' := by
 obtain ⟨a, c, rfl, hv⟩ := h
 rcases Nat.eq_zero_or_pos xs.length with h0 | h0
 ·have hx : xs = [] := List.eq_nil_of_length_eq_zero h0
  subst hx
  cases a with
  | none =>
   refine (Tryz.slices_Clone_int_nil 0 c w).mono ?_
   rintro e w' ⟨rfl, hw⟩
   rw [hw]
   exact ⟨_, rfl, World.ownsRow_nil _ _ _ _, Below.refl _ _⟩
  | some a =>
   refine (Tryz.slices_Clone_int_zero a c w).mono ?_
   rintro e w' ⟨v', rfl, ho, _, hb⟩
   exact ⟨_, rfl, ho, hb⟩
 ·obtain ⟨b, o, rfl, hc⟩ := hv h0
  refine (Tryz.slices_Clone_int b o xs.length c xs w (Nat.le_refl _) (by omega) hc).mono ?_
  rintro e w' ⟨v', rfl, ho, _, hb⟩
  rw [List.take_of_length_le (Nat.le_refl _)] at ho
  exact ⟨_, rfl, ho, hb⟩
/-- Numbers as keys. -/
def ekI (i : Int) : Value := .int .i64 i
def okI (i : Int) : Prop := -9223372036854775808 ≤ i ∧ i ≤ 9223372036854775807
theorem keyI : KeyE Tryz.prog 3 ekI okI where
 keyed := int_keyed Tryz.underlying3
 reads := fun x h => ⟨_, keyOf_int_mk Tryz.underlying3 (by simp [Lit.wf, IntKind.min, IntKind.max, IntKind.signed, IntKind.bits]; exact h)⟩
 inj := fun x y h => by unfold ekI at h; simpa using h
/-- Block b is a map of at most n lists of numbers. -/
def LMap (w : World) (b n : Nat) (g : Int → Option (List Int)) : Prop := ∃ f, Mp Tryz.prog 3 ekI okI w b n f ∧ ∀ r, (g r = none → f r = none) ∧ (∀ xs, g r = some xs → ∃ v, f r = some v ∧ IV w v xs)
theorem LMap.lt {w : World} {b n : Nat} {g : Int → Option (List Int)} (h : LMap w b n g) : b < w.heap.size := by obtain ⟨f, h, _⟩ := h; exact h.lt
theorem LMap.below {w w' : World} {b n : Nat} {g : Int → Option (List Int)} (h : LMap w b n g) (hb : Below w.heap.size w w') : LMap w' b n g := by
 obtain ⟨f, hm, hf⟩ := h
 refine ⟨f, hm.below hb, fun r => ⟨(hf r).1, fun xs hx => ?_⟩⟩
 obtain ⟨v, h1, h2⟩ := (hf r).2 xs hx
 exact ⟨v, h1, h2.below hb⟩
theorem LMap.mono {w : World} {b n n' : Nat} {g : Int → Option (List Int)} (h : LMap w b n g) (hn : n ≤ n') : LMap w b n' g := by
 obtain ⟨f, hm, hf⟩ := h
 exact ⟨f, hm.mono hn, hf⟩
theorem LMap.made (w : World) : LMap (w.alloc (.map #[] 0)) w.heap.size 0 (fun _ => none) := ⟨_, Mp.made w, fun r => ⟨fun _ => rfl, fun xs h => by cases h⟩⟩
def updL (g : Int → Option (List Int)) (x : Int) (xs : List Int) : Int → Option (List Int) := fun y => if y = x then some xs else g y
theorem LMap.put {w : World} {b n : Nat} {g : Int → Option (List Int)} (h : LMap w b n g) (hn : n < maxLen) {x : Int} (hx : okI x) {v : Value} {xs : List Int} (hv : IV w v xs) :
  ∃ w', (Instr.mapUpdate 41 (.map (some b)) (.int .i64 x) v).run Tryz.prog w = .ok () w' ∧ LMap w' b (n + 1) (updL g x xs) ∧ w.grownBy w' (some b) := by
 obtain ⟨f, hm, hf⟩ := h
 obtain ⟨w', hrun, hm', ht⟩ := hm.put keyI (t := 41) (e := 37) Tryz.underlying41 hn hx v
 have hmp : ∃ es cl, w.heap[b]? = some (.map es cl) := by obtain ⟨D, ⟨es, cl, hb, _⟩, _⟩ := hm; exact ⟨es, cl, hb⟩
 have t : Turns (fun k => k = b) w w' := .of_grown ht.grown (fun k e => by cases e; rfl)
 refine ⟨w', hrun, ⟨_, hm', fun r => ?_⟩, ht.grown⟩
 unfold upd updL
 by_cases hr : r = x
 ·rw [if_pos hr, if_pos hr]
  exact ⟨fun h => (by cases h), fun ys hy => ⟨v, rfl, (by cases hy; exact hv.turns t (fun k d => by subst d; exact hmp))⟩⟩
 ·rw [if_neg hr, if_neg hr]
  refine ⟨(hf r).1, fun ys hy => ?_⟩
  obtain ⟨u, h1, h2⟩ := (hf r).2 ys hy
  exact ⟨u, h1, h2.turns t (fun k d => by subst d; exact hmp)⟩
theorem zeroI (w : World) : (zeroValue 37).run Tryz.prog w = .ok (.slice none 0 0) w := by kernel_rfl
theorem LMap.look {w : World} {b n : Nat} {g : Int → Option (List Int)} (h : LMap w b n g) {x : Int} (hx : okI x) :
  ∃ v, (Instr.lookup 41 (.map (some b)) (.int .i64 x) true).run Tryz.prog w = .ok (.tuple #[v, .bool (g x).isSome]) w ∧ (Instr.lookup 41 (.map (some b)) (.int .i64 x) false).run Tryz.prog w = .ok v w ∧ IV w v ((g x).getD []) := by
 obtain ⟨f, hm, hf⟩ := h
 have h1 := hm.look keyI (t := 41) (e := 37) Tryz.underlying41 (zeroI w) hx
 have h2 := hm.look1 keyI (t := 41) (e := 37) Tryz.underlying41 (zeroI w) hx
 cases hg : g x with
 | none =>
  rw [(hf x).1 hg] at h1 h2
  exact ⟨_, h1, h2, ⟨none, 0, rfl, fun h => absurd h (Nat.lt_irrefl 0)⟩⟩
 | some xs =>
  obtain ⟨v, e1, e2⟩ := (hf x).2 xs hg
  rw [e1] at h1 h2
  exact ⟨v, h1, h2, e2⟩

/-- The last record that says something of a code point. -/
def lastG (val : RL → Int → Option (List Int)) (l : List RL) : Int → Option (List Int) := l.foldl (fun g x => fun r => (val x r).or (g r)) (fun _ => none)
theorem lastG_snoc (val : RL → Int → Option (List Int)) (l : List RL) (x : RL) : lastG val (l ++ [x]) = fun r => (val x r).or (lastG val l r) := by simp [lastG]
def cp (x : RL) (j : Nat) : List Int := pts (wordsB (BA (x.2.2.getD j [])))
def inR (x : RL) (r : Int) : Bool := decide (x.1 ≤ r) && decide (r ≤ x.2.1)
def partsVal (x : RL) (r : Int) : Option (List Int) := if inR x r then some (cp x 0) else none
def foldVal (st : List UInt8) (x : RL) (r : Int) : Option (List Int) := if x.2.2.getD 0 [] = st ∧ 2 ≤ x.2.2.length ∧ inR x r = true then some ((cp x 1).map (· + (r - x.1))) else none
/-- Records that a map can be made of. -/
def fitB (x : RL) : Bool := decide (0 ≤ x.1) && decide (x.1 ≤ x.2.1) && decide (x.2.1 ≤ 1114111) && decide (x.2.1 - x.1 ≤ 1000) && decide (1 ≤ x.2.2.length) && x.2.2.all (fun f => decide (f.length ≤ 100) && f.all (fun c => decide (c.toNat < 128)))
theorem fit_spec {x : RL} (h : fitB x = true) : 0 ≤ x.1 ∧ x.1 ≤ x.2.1 ∧ x.2.1 ≤ 1114111 ∧ x.2.1 - x.1 ≤ 1000 ∧ 1 ≤ x.2.2.length ∧ ∀ f ∈ x.2.2, (BA f).size ≤ 100 ∧ asciiB (BA f) := by
 unfold fitB at h
 simp only [Bool.and_eq_true, decide_eq_true_eq, List.all_eq_true] at h
 obtain ⟨⟨⟨⟨⟨h1, h2⟩, h3⟩, h4⟩, h5⟩, h6⟩ := h
 exact ⟨h1, h2, h3, h4, h5, fun f hf => ⟨(h6 f hf).1, fun i hi => (h6 f hf).2 _ (List.getElem_mem (by rw [BA_size] at hi; exact hi))⟩⟩
end Go.Proofs.YtinlolmjafjhnaaGreatDoor.prp
end

section
/- props.along, props.partsOf, props.foldingsOf. -/
set_option linter.unusedVariables false
set_option linter.unusedSimpArgs false
namespace Go.Proofs.YtinlolmjafjhnaaGreatDoor.prp
open Go.RowKit Go.Maps lin

theorem own_set {w : World} {base g n cap i : Nat} {xs : List Value} (h : w.ownsRow base 3 1 (.slice (some ⟨g, 0, none⟩) n cap) n xs) (hi : i < n) (u : Value) :
  (w.setCell ⟨g, i, none⟩ u).ownsRow base 3 1 (.slice (some ⟨g, 0, none⟩) n cap) n (xs.set i u) ∧ w.frozen? ⟨g, i, none⟩ = false ∧ w.cell? ⟨g, i, none⟩ = xs[i]? := by
 obtain ⟨hl, h⟩ := h
 rcases h with ⟨h, _⟩ | ⟨g', cap', cur, he, hg, hgg, h3, h4, h5, h6⟩
 ·cases h
 ·cases he
  refine ⟨⟨by rw [List.length_set]; exact hl, .inr ⟨g, cap, cur.setIfInBounds i u, rfl, hg, heap_setCell_same w g i cur _ u hgg, h3, h4, by simpa using h5, ?_⟩⟩, by simp [World.frozen?, hgg], ?_⟩
  ·rw [Array.toList_setIfInBounds, List.take_set, h6]
  ·rw [cell_of_row w g i cur _ _ hgg, ← h6, List.getElem?_take_of_lt (by omega), Array.getElem?_toList]

theorem step_list (xs : List Int) (k : Int) (j : Nat) (x : Int) (hx : xs[j]? = some x) (f : Int → Value) :
  (((xs.map (· + k)).take j ++ xs.drop j).map f).set j (f (x + k)) = ((xs.map (· + k)).take (j + 1) ++ xs.drop (j + 1)).map f := by
 have hlt := (List.getElem?_eq_some_iff.1 hx).1
 have hd : xs.drop j = x :: xs.drop (j + 1) := by rw [List.drop_eq_getElem_cons hlt, (List.getElem?_eq_some_iff.1 hx).2]
 have ht : (xs.map (· + k)).take (j + 1) = (xs.map (· + k)).take j ++ [x + k] := by rw [List.take_add_one, List.getElem?_map, hx]; rfl
 have hl : (((xs.map (· + k)).take j).map f).length = j := by rw [List.length_map, List.length_take, List.length_map]; omega
 rw [hd, ht, List.map_append, List.map_append, List.map_append, List.append_assoc, List.set_append_right _ _ (by omega), hl, Nat.sub_self]
 rfl

set_option maxHeartbeats 1500000 in
set_option maxRecDepth 1000000 in
theorem along_any (v : Value) (xs : List Int) (k : Int) (w : World) (h : IV w v xs) (hn : xs.length ≤ 1000000) (hk : 0 ≤ k ∧ k ≤ 1114111) (hx : ∀ x ∈ xs, 0 ≤ x ∧ x ≤ 1114111) :
  Calls Tryz.prog 60 #[v, .int .i64 k] w fun e w' => ∃ v', e = .returned v' ∧ IOwn w' w.heap.size v' (xs.map (· + k)) ∧ Below w.heap.size w w' := by
 have CL := iclone_any v xs w h hn
 obtain ⟨a0, c0, rfl, _⟩ := h
 have HX : Hid (∀ (i : Nat) (x : Int), xs[i]? = some x → 0 ≤ x ∧ x ≤ 1114111) := fun i x hi => hx x (List.mem_of_getElem? hi)
 clear hx
 go_enter Tryz.func60, Tryz.ntmps60
 go_wp2_with fail
 refine CL.mono ?_
 rintro e w1 ⟨v', rfl, ho, b1⟩
 clear CL
 have hs1 := b1.size
 rcases Nat.eq_zero_or_pos xs.length with h0 | h0
 ·have hx0 : xs = [] := List.eq_nil_of_length_eq_zero h0
  subst hx0
  obtain ⟨va, vc, rfl⟩ := own_slice ho
  have HO : Hid (IOwn w1 w.heap.size (.slice va 0 vc) []) := ho
  clear ho
  go_wp2
  refine wp_loop_rounds 1 ?_
  rw [rounds_succ]
  go_wp2
  try rw [Exit.noGoto_ret]
  go_ret
  exact ⟨_, rfl, HO.out, b1⟩
 ·obtain ⟨g, cap, rfl⟩ : ∃ g cap, v' = .slice (some ⟨g, 0, none⟩) xs.length cap := by
   rcases ho.2 with ⟨_, hn⟩ | ⟨g, cap, cur, he, _⟩
   ·omega
   ·exact ⟨g, cap, he⟩
  have hgl : g < w1.heap.size ∧ w.heap.size ≤ g := ⟨(ho.lt g rfl).2, (ho.lt g rfl).1⟩
  have HO : Hid (w1.ownsRow w.heap.size 3 1 (.slice (some ⟨g, 0, none⟩) xs.length cap) xs.length (((xs.map (· + k)).take 0 ++ xs.drop 0).map (Value.int .i64))) := ho
  clear ho
  go_wp2
  go_loopw [11] (fun i wr => ∃ j : Nat, j ≤ xs.length ∧ i = .int .i64 j ∧ Hid (wr.ownsRow w.heap.size 3 1 (.slice (some ⟨g, 0, none⟩) xs.length cap) xs.length (((xs.map (· + k)).take j ++ xs.drop j).map (Value.int .i64))) ∧ Below w.heap.size w wr) (fun i _ => xs.length - (RowKit.intOf i).toNat)
  case atStart => exact ⟨0, Nat.zero_le _, rfl, HO, b1⟩
  case round =>
   clear HO
   obtain ⟨j, hj, rfl, HR, hbel⟩ := hrel
   by_cases hlt : j < xs.length
   ·have hlt' : (j : Int) < (xs.length : Int) := by omega
    obtain ⟨x, hx⟩ : ∃ x, xs[j]? = some x := ⟨_, List.getElem?_eq_getElem hlt⟩
    obtain ⟨hx1, hx2⟩ := HX.out j x hx
    obtain ⟨hset, hfr, hce⟩ := own_set HR.out hlt (.int .i64 (x + k))
    have hlen : ((xs.map (· + k)).take j).length = j := by rw [List.length_take, List.length_map]; omega
    have hce2 : wr.cell? ⟨g, j, none⟩ = some (.int .i64 x) := by
     rw [hce, List.getElem?_map, List.getElem?_append_right (by omega), hlen, Nat.sub_self, List.getElem?_drop, Nat.add_zero, hx]; rfl
    have HR2 : Hid ((wr.setCell ⟨g, j, none⟩ (.int .i64 (x + k))).ownsRow w.heap.size 3 1 (.slice (some ⟨g, 0, none⟩) xs.length cap) xs.length (((xs.map (· + k)).take (j + 1) ++ xs.drop (j + 1)).map (Value.int .i64))) := by
     have e := step_list xs k j x hx (Value.int .i64)
     rw [e] at hset
     exact hset
    have hb2 : Below w.heap.size w (wr.setCell ⟨g, j, none⟩ (.int .i64 (x + k))) := hbel.trans ⟨rfl, rfl, rfl, by simp, fun q hq => heap_setCell_other _ _ _ _ (by show q ≠ g; omega)⟩
    have wx : IntKind.i64.wrap (x + k) = x + k := by rw [IntKind.wrap_i64]; omega
    clear hset hce HR hx
    go_wp2
    exact ⟨⟨j + 1, by omega, by go_num, HR2, hb2⟩, by simp [RowKit.intOf]; omega⟩
   ·have hge : ¬ (j : Int) < (xs.length : Int) := by omega
    obtain rfl : j = xs.length := by omega
    have HR2 : Hid (IOwn wr w.heap.size (.slice (some ⟨g, 0, none⟩) xs.length cap) (xs.map (· + k))) := by
     have h := HR.out
     rw [List.drop_length, List.append_nil, List.take_of_length_le (by rw [List.length_map]; exact Nat.le_refl _)] at h
     unfold Hid IOwn
     rw [List.length_map]
     exact h
    clear HR
    go_wp2
    go_ret
    exact ⟨_, rfl, HR2.out, hbel⟩

/-- A map in the making: of the records ahead of the k-th, and of the k-th one's code points ahead of p. -/
theorem updL_in (val : RL → Int → Option (List Int)) (g : Int → Option (List Int)) (x : RL) (p : Int) (xs : List Int) (hp : x.1 ≤ p ∧ p ≤ x.2.1) (hv : val x p = some xs) :
  updL (fun r => if x.1 ≤ r ∧ r < p then (val x r).or (g r) else g r) p xs = fun r => if x.1 ≤ r ∧ r < p + 1 then (val x r).or (g r) else g r := by
 funext r
 unfold updL
 show (if r = p then some xs else (if x.1 ≤ r ∧ r < p then (val x r).or (g r) else g r)) = (if x.1 ≤ r ∧ r < p + 1 then (val x r).or (g r) else g r)
 by_cases h : r = p
 ·subst h
  rw [if_pos rfl, if_pos ⟨hp.1, by omega⟩, hv]
  rfl
 ·rw [if_neg h]
  by_cases h2 : x.1 ≤ r ∧ r < p
  ·rw [if_pos h2, if_pos ⟨h2.1, by omega⟩]
  ·rw [if_neg h2, if_neg (fun h3 => h2 ⟨h3.1, by omega⟩)]

set_option maxHeartbeats 2000000 in
set_option maxRecDepth 1000000 in
theorem parts_any (v : Value) (l : List RL) (w : World) (E : Env w) (h : View w v (l.map recOf)) (h0 : 0 < l.length) (hn : l.length ≤ 1000) (hf : ∀ x ∈ l, fitB x = true) :
  Calls Tryz.prog 37 #[v] w fun e w' => ∃ b, e = .returned (.map (some b)) ∧ LMap w' b 2000000 (lastG partsVal l) ∧ Below w.heap.size w w' := by
 obtain ⟨rb, ro, rc, rfl, hrec⟩ := view_recs h h0
 have HREC : Hid (∀ (i : Nat) (r : RL), l[i]? = some r → ∃ g o2 c2, RecM w rb (ro + i * 3) r g o2 c2) := hrec
 have HE : Hid (Env w) := E
 have HFT : Hid (∀ (i : Nat) (r : RL), l[i]? = some r → fitB r = true) := fun i r hi => hf r (List.mem_of_getElem? hi)
 have HNX : Hid (∀ (i : Nat) (r : RL), l[i]? = some r → l.take (i + 1) = l.take i ++ [r]) := fun i r hi => by rw [List.take_add_one, hi]; rfl
 clear h hrec hf E
 have hmm := @run_makeMap Tryz.prog
 go_enter Tryz.func37, Tryz.ntmps37
 go_wp2
 clear hmm
 go_loopw [10] (fun i wr => ∃ k : Nat, k ≤ l.length ∧ i = .int .i64 k ∧ Hid (LMap wr w.heap.size (1001 * k) (lastG partsVal (l.take k))) ∧ Below w.heap.size w wr) (fun i _ => l.length - (RowKit.intOf i).toNat)
 case atStart => exact ⟨0, Nat.zero_le _, rfl, LMap.made w, (Below.refl _ w).alloc (Nat.le_refl _) _⟩
 case round =>
  obtain ⟨k, hk, rfl, HL, hbel⟩ := hrel
  by_cases hlt : k < l.length
  ·have hlt' : (k : Int) < (l.length : Int) := by omega
   obtain ⟨x, hx⟩ : ∃ x, l[k]? = some x := ⟨_, List.getElem?_eq_getElem hlt⟩
   obtain ⟨fg, fo, fc, hrm0⟩ := HREC.out k x hx
   have hrm := hrm0.below hbel
   obtain ⟨f1, f2, f3, f4, f5, f6⟩ := fit_spec (HFT.out k x hx)
   obtain ⟨f, hfx⟩ : ∃ f, x.2.2[0]? = some f := ⟨_, List.getElem?_eq_getElem (by omega)⟩
   obtain ⟨f7, f8⟩ := f6 f (List.mem_of_getElem? hfx)
   have hcp : cp x 0 = pts (wordsB (BA f)) := by unfold cp; rw [List.getD_eq_getElem?_getD, hfx]; rfl
   have HTK := HNX.out k x hx
   have HEND : Hid (lastG partsVal (l.take (k + 1)) = fun r => (partsVal x r).or (lastG partsVal (l.take k) r)) := by rw [Hid, HTK, lastG_snoc]
   have HVAL : Hid (∀ r, x.1 ≤ r → r ≤ x.2.1 → partsVal x r = some (pts (wordsB (BA f)))) := fun r h1 h2 => by unfold partsVal inR; rw [decide_eq_true h1, decide_eq_true h2, ← hcp]; rfl
   have HOUT : Hid (∀ r, ¬ (x.1 ≤ r ∧ r ≤ x.2.1) → partsVal x r = none) := fun r h1 => by
    unfold partsVal inR
    rw [if_neg]
    simp only [Bool.and_eq_true, decide_eq_true_eq]
    exact h1
   have q0 := hrm.lo
   have q1 := hrm.hi
   have q2 := hrm.fv
   have q3 := hrm.fs 0 f hfx
   rw [Nat.add_zero] at q3
   have q3w := hrm0.fs 0 f hfx
   rw [Nat.add_zero] at q3w
   have hbs := hbel.size
   have HCO : Hid (∀ W, Env W → Calls Tryz.prog 59 #[.string (BA f)] W fun e w' => ∃ v, e = .returned v ∧ IOwn w' W.heap.size v (pts (wordsB (BA f))) ∧ Below W.heap.size W w') := fun W EW => code_any (BA f) W EW (by omega) f8
   have HLN : Hid ((x.2.2).length = (x.2.2).length) := rfl
   have f5' : (1 : Int) ≤ (x.2.2.length : Int) := by omega
   have f5'' : (0 : Int) < (x.2.2.length : Int) := by omega
   have HG0 : Hid (lastG partsVal (l.take k) = fun r => if x.1 ≤ r ∧ r < x.1 then (partsVal x r).or (lastG partsVal (l.take k) r) else lastG partsVal (l.take k) r) := by
    unfold Hid; funext r; rw [if_neg (by omega)]
   clear HTK hx hfx f6 f7 f8 hcp hrm hrm0
   generalize lastG partsVal (l.take k) = G at *
   generalize hL3 : x.2.2.length = n3 at *
   obtain ⟨lo, hi, fs⟩ := x
   simp only at *
   go_wp2
   have hlw : w.heap.size < wr.heap.size := HL.out.lt
   have hfgw : fg < w.heap.size := World.block_lt_of_cell? w ⟨fg, fo, none⟩ q3w
   have W1b : Below wr.heap.size wr (wr.alloc (.cells #[.int .i64 lo, .int .i64 hi, .slice (some ⟨fg, fo, none⟩) n3 fc] 98)) := (Below.refl _ wr).alloc (Nat.le_refl _) _
   have L1 := HL.out.below W1b
   have nb1 : (wr.alloc (.cells #[.int .i64 lo, .int .i64 hi, .slice (some ⟨fg, fo, none⟩) n3 fc] 98)).heap[wr.heap.size]? = some (.cells #[.int .i64 lo, .int .i64 hi, .slice (some ⟨fg, fo, none⟩) n3 fc] 98 (0, 0)) := World.alloc_heap_new _ _
   have bw1 := hbel.trans (W1b.mono hbs)
   generalize wr.alloc (.cells #[.int .i64 lo, .int .i64 hi, .slice (some ⟨fg, fo, none⟩) n3 fc] 98) = W1 at *
   have hw1s := bw1.size
   have hlt1 : wr.heap.size < W1.heap.size := (Array.getElem?_eq_some_iff.1 nb1).1
   have HCELL : Hid (∀ W, Turns (fun k => k = w.heap.size) W1 W → W.cell? ⟨wr.heap.size, 0, none⟩ = some (.int .i64 lo) ∧ W.cell? ⟨wr.heap.size, 1, none⟩ = some (.int .i64 hi) ∧ W.cell? ⟨wr.heap.size, 2, none⟩ = some (.slice (some ⟨fg, fo, none⟩) n3 fc) ∧ W.cell? ⟨fg, fo, none⟩ = some (.string (BA f)) ∧ Env W ∧ Below w.heap.size w W) := fun W t => by
    have h := (t.block _ hlt1 (by omega)).trans nb1
    have hb := bw1.trans (t.below hw1s (fun k d => by omega))
    exact ⟨cell_of_row W _ 0 _ _ _ h, cell_of_row W _ 1 _ _ _ h, cell_of_row W _ 2 _ _ _ h, (hb.cell (p := ⟨fg, fo, none⟩) hfgw).trans q3w, HE.out.below hb, hb⟩
   clear W1b nb1 q0 q1 q2 q3 HL hbel
   generalize wr.heap.size = RB at *
   rw [HG0.out] at L1
   have L2 : Hid (LMap W1 w.heap.size (1001 * k + (lo - lo).toNat) (fun r => if lo ≤ r ∧ r < lo then (partsVal (lo, hi, fs) r).or (G r) else G r)) := by unfold Hid; rw [Int.sub_self]; exact L1
   clear L1 HG0
   go_loopw [6] (fun u wz => ∃ p : Int, lo ≤ p ∧ p ≤ hi + 1 ∧ u = .int .i64 p ∧ Hid (LMap wz w.heap.size (1001 * k + (p - lo).toNat) (fun r => if lo ≤ r ∧ r < p then (partsVal (lo, hi, fs) r).or (G r) else G r)) ∧ Hid (Turns (fun k => k = w.heap.size) W1 wz)) (fun u _ => (hi + 1 - RowKit.intOf u).toNat)
   case atStart => exact ⟨lo, by omega, by omega, rfl, L2, Turns.refl _ _⟩
   case round =>
    clear L2
    obtain ⟨p, hp1, hp2, rfl, HM, HT⟩ := hrel
    obtain ⟨c0, c1, c2, c3, env, hbw⟩ := HCELL.out _ HT.out
    have hwz := hbw.size
    by_cases hpi : p ≤ hi
    ·have CO := HCO.out wr env
     have hv := HVAL.out p hp1 hpi
     have hup := updL_in partsVal G (lo, hi, fs) p (pts (wordsB (BA f))) ⟨hp1, hpi⟩ hv
     simp only at hup
     have wp1 : IntKind.i64.wrap (p + 1) = p + 1 := by rw [IntKind.wrap_i64]; omega
     go_wp2_with fail
     refine CO.mono ?_
     rintro e w3 ⟨cv, rfl, ho, hb3⟩
     clear CO
     obtain ⟨va, vc, rfl⟩ := own_slice ho
     obtain ⟨w4, hrun, hM4, hg4⟩ := (HM.out.below hb3).put (by unfold maxLen; omega) (x := p) ⟨by omega, by omega⟩ ho.iv
     rw [hup] at hM4
     have HM2 : Hid (LMap w4 w.heap.size (1001 * k + (p + 1 - lo).toNat) (fun r => if lo ≤ r ∧ r < p + 1 then (partsVal (lo, hi, fs) r).or (G r) else G r)) := hM4.mono (by omega)
     have HT2 : Hid (Turns (fun k => k = w.heap.size) W1 w4) := (HT.out.trans (.of_below hb3)).trans (.of_grown hg4 (fun k e => by cases e; rfl))
     clear HM HT hM4 hg4 ho hb3 hup hv
     go_wp2
     exact ⟨⟨p + 1, by omega, by omega, rfl, HM2, HT2⟩, by simp [RowKit.intOf]; omega⟩
    ·obtain rfl : p = hi + 1 := by omega
     have HM2 : Hid (LMap wr w.heap.size (1001 * (k + 1)) (lastG partsVal (l.take (k + 1)))) := by
      rw [Hid, HEND.out]
      have e : (fun r => if lo ≤ r ∧ r < hi + 1 then (partsVal (lo, hi, fs) r).or (G r) else G r) = fun r => (partsVal (lo, hi, fs) r).or (G r) := by
       funext r
       by_cases h : lo ≤ r ∧ r < hi + 1
       ·rw [if_pos h]
       ·rw [if_neg h, HOUT.out r (fun h2 => h ⟨h2.1, by omega⟩)]; rfl
      rw [← e]
      exact HM.out.mono (by omega)
     clear HM HT
     go_wp2
     exact ⟨⟨k + 1, by omega, by go_num, HM2, hbw⟩, by simp [RowKit.intOf]; omega⟩
  ·have hge : ¬ (k : Int) < (l.length : Int) := by omega
   have HF : Hid (LMap wr w.heap.size 2000000 (lastG partsVal l)) := by
    have h := HL.out
    rw [List.take_of_length_le (by omega)] at h
    exact h.mono (by omega)
   clear HL
   go_wp2
   go_ret
   exact ⟨_, rfl, HF.out, hbel⟩
end Go.Proofs.YtinlolmjafjhnaaGreatDoor.prp
end
