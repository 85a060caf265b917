/- slices.Concat of two rows of bytes; the walk of UtfJoins. -/
import Derived.Test.YtamcaomenbgabaaDoorUtfConcat
import Derived.Test.YtamcaomenbgabaaDoorUtfEqual
import Derived.Test.YtamcaomenbgabaaDoorUtfStands
import Derived.Test.YtamcaomenbgabaaDoorUtfRef
import Derived.Test.YtamcaomenbgabaaDoorUtfPure5
import Derived.Deep.AppendLies
set_option linter.unusedVariables false
set_option linter.unusedSimpArgs false
namespace Go.Proofs.YtamcaomenbgabaaDoor.utf
open Go.RowKit Go.Lib

/-- The first n bytes as a list. -/
def bl (f : Nat → Int) (n : Nat) : List Int := (List.range n).map f
theorem bl_length (f : Nat → Int) (n : Nat) : (bl f n).length = n := by simp [bl]
theorem bl_get? (f : Nat → Int) (n i : Nat) (h : i < n) : ((bl f n).map (Value.int .u8))[i]? = some (.int .u8 (f i)) := by simp [bl, h]

theorem bl_news {w : World} {ad : Addr} {n : Nat} {f : Nat → Int} (hB : IsB w (some ad) n f) : ∀ (j : Nat) (u : Value), ((bl f n).map (Value.int .u8))[j]? = some u → w.cell? (ad.add j) = some u := by
  intro j u hj
  have hjn : j < n := by
    rcases Nat.lt_or_ge j n with h | h
    · exact h
    · rw [List.getElem?_eq_none (by simpa [bl] using h)] at hj; simp at hj
  rw [bl_get? f n j hjn] at hj
  rcases hB with h0 | ⟨b, off, hbo, hc⟩
  · omega
  · simp only [Option.some.injEq] at hbo
    subst hbo
    rw [Addr.add_lit, ← hj]
    exact hc j hjn

/-- append(dst, src...), dst the call's own, src nil or not. -/
theorem wpList_append_src {w : World} {ops : Array Oper} {rest : List Oper} {o : Oper} {a : Act} {Q : Exit → Act → World → Prop} (hgd : o.guard = none) (s x : Operand)
    (ho : o.op = .call { callee := .builtin .append, args := #[s, x], argTypes := #[22, 22] })
    (base : Nat) (i : TypeInfo) (hi : Tryd.prog.info? 5 = some i) (hz : i.zero = some (.int .u8 0)) (hsize : i.size = 1) (hby : i.bytes = 1)
    (v : Value) (n : Nat) (xs : List Value) (hs : a.eval s = v) (hown : w.ownsRow base 5 1 v n xs)
    (ao : Option Addr) (m c : Nat) (news : List Value) (hx : a.eval x = .slice ao m c) (hl : news.length = m) (hnil : ao = none → m = 0 ∧ c = 0)
    (hnews : ∀ ad, ao = some ad → ∀ j u, news[j]? = some u → w.cell? (ad.add j) = some u) (h1 : ∀ u ∈ news, u.oneCell' = true)
    (h63 : n + m ≤ maxLen) (hbytes : (n + m) * 1 ≤ 140737488355328) (hbase : base ≤ w.heap.size)
    (h : ∀ v' w', w'.ownsRow base 5 1 v' (n + m) (xs ++ news) → w.grownBy w' v.ownBlock → wpList Tryd.prog ops Q rest (a.put o.dst v') w') : wpList Tryd.prog ops Q (o :: rest) a w := by
  cases ao with
  | none =>
    obtain ⟨rfl, rfl⟩ := hnil rfl
    obtain rfl := List.eq_nil_of_length_eq_zero hl
    refine wpList_append_own_none hgd s x 22 ho base 5 i 1 Tryd.underlying22 hi v n xs hs hown hx (h v w ?_ ⟨rfl, rfl, rfl, Nat.le_refl _, fun _ _ _ => rfl⟩)
    simpa using hown
  | some ad =>
    exact wpList_append_own w hgd s x 22 ho base 5 i (.int .u8 0) 1 1 Tryd.underlying22 hi hz hsize hby rfl (by decide) v n xs hs hown ad m c news hx (by simpa using hl) (hnews ad rfl) h1 h63 hbytes hbase (fun v' w' h2 h3 _ => h v' w' h2 h3)

set_option maxHeartbeats 1000000 in
theorem concat_any (B na ca nb cb : Nat) (aa ab : Option Addr) (fa fb : Nat → Int) (w : World) (c0 : w.cell? ⟨B, 0, none⟩ = some (.slice aa na ca)) (c1 : w.cell? ⟨B, 1, none⟩ = some (.slice ab nb cb))
    (hA : IsB w aa na fa) (hB : IsB w ab nb fb) (hna : aa = none → na = 0 ∧ ca = 0) (hnb : ab = none → nb = 0 ∧ cb = 0) (hn : na + nb ≤ 140737488355328) :
    Calls Tryd.prog 12 #[.slice (some ⟨B, 0, none⟩) 2 2] w fun e w' => ∃ v, e = .returned v ∧ w'.ownsRow w.heap.size 5 1 v (na + nb) ((bl fa na ++ bl fb nb).map (Value.int .u8)) ∧ Below w.heap.size w w' := by
  obtain ⟨i0, hi, hz0, hz1, hz2⟩ := info_parts infoU8
  have C0 : Hid (w.cell? ⟨B, 0, none⟩ = some (.slice aa na ca)) := c0
  have C1 : Hid (w.cell? ⟨B, 1, none⟩ = some (.slice ab nb cb)) := c1
  have HA : Hid (IsB w aa na fa) := hA
  have HB : Hid (IsB w ab nb fb) := hB
  have HNA : Hid (aa = none → na = 0 ∧ ca = 0) := hna
  have HNB : Hid (ab = none → nb = 0 ∧ cb = 0) := hnb
  have GR : ∀ w, Calls Tryd.prog 18 #[.slice none 0 0, .int .i64 ((na : Int) + (nb : Int))] w fun e w' => ∃ v, e = .returned v ∧ w'.ownsRow w.heap.size 5 1 v 0 [] ∧ Below w.heap.size w w' := by
    intro w
    rcases Nat.eq_zero_or_pos (na + nb) with h | h
    · have e : (na : Int) + (nb : Int) = 0 := by omega
      rw [e]
      refine (grow_zero w).mono ?_
      rintro e w' ⟨rfl, rfl⟩
      exact ⟨_, rfl, World.ownsRow_nil _ _ _ _, Below.refl _ _⟩
    · have := grow_pos (na + nb) w h hn
      rw [Int.natCast_add] at this
      exact this
  have HG : Hid (∀ w, Calls Tryd.prog 18 #[.slice none 0 0, .int .i64 ((na : Int) + (nb : Int))] w fun e w' => ∃ v, e = .returned v ∧ w'.ownsRow w.heap.size 5 1 v 0 [] ∧ Below w.heap.size w w') := GR
  clear GR hA hB hna hnb
  go_enter Tryd.func12, Tryd.ntmps12
  go_wp2
  refine wp_loop_rounds 3 ?_
  rw [rounds_succ]
  go_wp2
  rw [rounds_succ]
  go_wp2
  rw [rounds_succ]
  go_wp2_with fail
  refine (HG.out _).mono ?_
  rintro e w1 ⟨v, rfl, hown, hb1⟩
  clear HG
  go_wp2
  go_loopw [6, 27] (fun v i wr => Below w.heap.size w wr ∧ ((i = .int .i64 0 ∧ wr.ownsRow w.heap.size 5 1 v 0 []) ∨ (i = .int .i64 1 ∧ wr.ownsRow w.heap.size 5 1 v na ((bl fa na).map (Value.int .u8))) ∨ (i = .int .i64 2 ∧ wr.ownsRow w.heap.size 5 1 v (na + nb) ((bl fa na ++ bl fb nb).map (Value.int .u8))))) (fun _ i _ => 3 - (RowKit.intOf i).toNat)
  case atStart => exact ⟨hb1, .inl ⟨rfl, hown⟩⟩
  case round =>
    clear hown hb1
    obtain ⟨hbel, ⟨rfl, hown⟩ | ⟨rfl, hown⟩ | ⟨rfl, hown⟩⟩ := hrel
    ·
      have cc := (hbel.cell (World.block_lt_of_cell? w _ C0.out)).trans C0.out
      have HNW : Hid (∀ ad, aa = some ad → ∀ (j : Nat) (u : Value), ((bl fa na).map (Value.int .u8))[j]? = some u → wr.cell? (ad.add j) = some u) := fun ad e => bl_news (by have := HA.out.below hbel; rw [e] at this; exact this)
      go_wp2_with (at_builtin; refine wpList_append_src rfl _ _ rfl w.heap.size i0 hi hz0 hz1 hz2 _ _ _ rfl hown aa na ca ((bl fa na).map (Value.int .u8)) rfl ?c0 HNA.out HNW.out ?c2 ?c3 ?c4 hbel.size ?_)
      case c0 => simp [bl]
      case c2 => intro u hu; simp at hu; obtain ⟨x, _, rfl⟩ := hu; rfl
      case c3 => unfold maxLen; omega
      case c4 => omega
      · intro v' w3 hown3 hgrow
        have R3 := Below.grown hbel hgrow hbel.size (fun k e => (hown.lt _ e).1)
        clear hgrow hown hbel HNW
        go_wp2
        go_roundw
        case rel => exact ⟨R3, .inr (.inl ⟨rfl, by simpa using hown3⟩)⟩
        case measure => simp [RowKit.intOf]
    ·
      have cc := (hbel.cell (World.block_lt_of_cell? w _ C1.out)).trans C1.out
      have HNW : Hid (∀ ad, ab = some ad → ∀ (j : Nat) (u : Value), ((bl fb nb).map (Value.int .u8))[j]? = some u → wr.cell? (ad.add j) = some u) := fun ad e => bl_news (by have := HB.out.below hbel; rw [e] at this; exact this)
      go_wp2_with (at_builtin; refine wpList_append_src rfl _ _ rfl w.heap.size i0 hi hz0 hz1 hz2 _ _ _ rfl hown ab nb cb ((bl fb nb).map (Value.int .u8)) rfl ?c0 HNB.out HNW.out ?c2 ?c3 ?c4 hbel.size ?_)
      case c0 => simp [bl]
      case c2 => intro u hu; simp at hu; obtain ⟨x, _, rfl⟩ := hu; rfl
      case c3 => unfold maxLen; omega
      case c4 => omega
      · intro v' w3 hown3 hgrow
        have R3 := Below.grown hbel hgrow hbel.size (fun k e => (hown.lt _ e).1)
        clear hgrow hown hbel HNW
        go_wp2
        go_roundw
        case rel => exact ⟨R3, .inr (.inr ⟨rfl, by rw [List.map_append]; exact hown3⟩)⟩
        case measure => simp [RowKit.intOf]
    · go_wp2
      go_ret
      exact ⟨_, rfl, hown, hbel⟩

theorem isB_two {w : World} {B na nb : Nat} {v : Value} {fa fb : Nat → Int} (h : w.ownsRow B 5 1 v (na + nb) ((bl fa na ++ bl fb nb).map (Value.int .u8))) :
    ∃ ao cap, v = .slice ao (na + nb) cap ∧ IsB w ao (na + nb) (both fa fb na) := by
  rcases h.2 with ⟨rfl, h0⟩ | ⟨g, cap, cur, rfl, _⟩
  · exact ⟨none, 0, by rw [h0], .inl h0⟩
  · refine ⟨some ⟨g, 0, none⟩, cap, rfl, .inr ⟨g, 0, rfl, fun i hi => ?_⟩⟩
    rw [Nat.zero_add, h.cellAt i (by omega)]
    unfold both
    by_cases c : i < na
    · rw [if_pos c, List.map_append, List.getElem?_append_left (by simp [bl, c])]
      exact bl_get? fa na i c
    · rw [if_neg c, List.map_append, List.getElem?_append_right (by simp [bl]; omega)]
      rw [show i - (List.map (Value.int .u8) (bl fa na)).length = i - na from by simp [bl]]
      exact bl_get? fb nb (i - na) (by omega)

theorem both_range {fa fb : Nat → Int} (na : Nat) (ha : ∀ i, 0 ≤ fa i ∧ fa i ≤ 255) (hb : ∀ i, 0 ≤ fb i ∧ fb i ≤ 255) : ∀ i, 0 ≤ both fa fb na i ∧ both fa fb na i ≤ 255 := by
  intro i; unfold both; split
  · exact ha i
  · exact hb _

theorem joins_no (aa ab : Option Addr) (na ca nb cb : Nat) (fa : Nat → Int) (w : World) (hm : Marks w) (hA : IsB w aa na fa) (hn : na ≤ 9223372036854775807) (hc : na ≤ ca) (hcm : ca ≤ 9223372036854775807) (ha : ∀ i, 0 ≤ fa i ∧ fa i ≤ 255) (hv : valid fa na 0 = false) :
    Calls Tryd.prog 4 #[.slice aa na ca, .slice ab nb cb] w fun e w' => e = .returned (.bool true) ∧ Below w.heap.size w w' := by
  have V := valid_any aa na ca fa w hA hn ha
  rw [hv] at V
  have HR : Hid (∀ w', Below w.heap.size w w' → Calls Tryd.prog 10 #[.slice aa na ca] w' fun e w'' => e = .returned (.bool false) ∧ Below w'.heap.size w' w'') := by
    intro w' hb
    have := rvalid_any aa na ca fa w' (hA.below hb) hn hc hcm ha
    rwa [hv] at this
  have HM : Hid (Marks w) := hm
  clear hA ha hv hm
  go_enter Tryd.func4, Tryd.ntmps4
  go_wp2_with fail
  refine V.mono ?_
  rintro e w1 ⟨rfl, hb1⟩
  go_wp2_with fail
  refine (HR.out w1 hb1).mono ?_
  rintro e w2 ⟨rfl, hb2⟩
  have b2 := hb1.trans (hb2.mono hb1.size)
  have AW := awake_any w2 (HM.out.below b2)
  clear V HR hb1 hb2
  go_wp2_with (go_at_call 8; refine AW.mono ?_; rintro e w' ⟨rfl, hbel⟩)
  go_ret
  exact ⟨rfl, b2.trans (Below.mono (by assumption) b2.size)⟩

theorem IsI.grown {w w' : World} {g n : Nat} {x y z : Nat → Int} {row : Option Nat} (h : IsI w g n x y z) (hg : w.grownBy w' row) (hne : some g ≠ row) : IsI w' g n x y z := by
  intro i hi
  obtain ⟨h1, h2, h3⟩ := h i hi
  exact ⟨hg.cell h1 hne, hg.cell h2 hne, hg.cell h3 hne⟩
theorem IsI.al {w : World} {g n : Nat} {x y z : Nat → Int} (h : IsI w g n x y z) (o : Obj) : IsI (w.alloc o) g n x y z := h.below ((Below.refl _ _).alloc (Nat.le_refl _) o)

/-- Decode of a row of bytes: the answer's form, the row apart from what lay before. -/
theorem decode_form (ao : Option Addr) (n cap : Nat) (f : Nat → Int) (w : World) (hB : IsB w ao n f) (hn : n * 24 ≤ 140737488355328) (hf : ∀ i, 0 ≤ f i ∧ f i ≤ 255) :
    Calls Tryd.prog 5 #[.slice ao n cap] w fun e w' => ∃ ad c g, e = .returned (.slice ad (items f n 0).length c) ∧ (0 < (items f n 0).length → ad = some ⟨g, 0, none⟩) ∧ w.heap.size ≤ g ∧ IsI w' g (items f n 0).length (fun i => ((items f n 0).getD i (0, 0, 0)).1) (fun i => (((items f n 0).getD i (0, 0, 0)).2.1 : Int)) (fun i => (((items f n 0).getD i (0, 0, 0)).2.2 : Int)) ∧ Below w.heap.size w w' := by
  refine (decode_any ao n cap f w hB hn hf).mono ?_
  rintro e w' ⟨v, rfl, hown, hb⟩
  rcases hown.2 with ⟨rfl, h0⟩ | ⟨g, c, cur, rfl, hg, rest⟩
  · exact ⟨none, 0, w.heap.size, by rw [h0], fun h => by omega, Nat.le_refl _, fun i hi => by omega, hb⟩
  · exact ⟨some ⟨g, 0, none⟩, c, g, rfl, fun _ => rfl, hg, isI_of (n := 0) hown, hb⟩

set_option maxHeartbeats 1000000 in
theorem joins_yes (aa ab : Option Addr) (na ca nb cb : Nat) (fa fb : Nat → Int) (w : World) (hm : Marks w) (hA : IsB w aa na fa) (hB : IsB w ab nb fb) (hn : (na + nb) * 24 ≤ 140737488355328) (hna : aa = none → na = 0 ∧ ca = 0) (hnb : ab = none → nb = 0 ∧ cb = 0)
    (ha : ∀ i, 0 ≤ fa i ∧ fa i ≤ 255) (hb : ∀ i, 0 ≤ fb i ∧ fb i ≤ 255) (hv : valid fa na 0 = true) :
    Calls Tryd.prog 4 #[.slice aa na ca, .slice ab nb cb] w fun e w' => e = .returned (.bool true) ∧ Below w.heap.size w w' := by
  obtain ⟨i0, hi, hz0, hz1, hz2⟩ := info_parts infoItem
  have V := valid_any aa na ca fa w hA (by omega) ha
  rw [hv] at V
  have HIT : Hid (items (both fa fb na) (na + nb) 0 = items fa na 0 ++ shift na (items fb nb 0)) := items_both fa fb na nb hv
  have HA : Hid (IsB w aa na fa) := hA
  have HB : Hid (IsB w ab nb fb) := hB
  have HM : Hid (Marks w) := hm
  have Hra : Hid (∀ i, 0 ≤ fa i ∧ fa i ≤ 255) := ha
  have Hrb : Hid (∀ i, 0 ≤ fb i ∧ fb i ≤ 255) := hb
  have HNA : Hid (aa = none → na = 0 ∧ ca = 0) := hna
  have HNB : Hid (ab = none → nb = 0 ∧ cb = 0) := hnb
  have hla := items_le fa na (na - 0) 0 rfl
  have hlb := items_le fb nb (nb - 0) 0 rfl
  clear hA hB hm ha hb hna hnb hv
  go_enter Tryd.func4, Tryd.ntmps4
  go_wp2_with fail
  refine V.mono ?_
  rintro e w1 ⟨rfl, hb1⟩
  clear V
  go_wp2_with fail
  refine (decode_any aa na ca fa w1 (HA.out.below hb1) (by omega) Hra.out).mono ?_
  rintro e w2 ⟨v, rfl, hown, hb2⟩
  have b2 := hb1.trans (hb2.mono hb1.size)
  have hown' : w2.ownsRow w.heap.size 26 3 v (items fa na 0).length (flat (items fa na 0)) := ⟨hown.1, by
    rcases hown.2 with h | ⟨g, cap, cur, h1, h2, h3⟩
    · exact .inl h
    · exact .inr ⟨g, cap, cur, h1, Nat.le_trans hb1.size h2, h3⟩⟩
  clear hown hb2 hb1
  go_wp2_with fail
  refine (decode_form ab nb cb fb w2 (HB.out.below b2) (by omega) Hrb.out).mono ?_
  rintro e w3 ⟨ad, c, g, rfl, hadg, hg2, hI, hb3⟩
  have b3 := b2.trans (hb3.mono b2.size)
  have hown3 := own_below hown' hb3
  have HI : Hid (IsI w3 g (items fb nb 0).length (fun i => ((items fb nb 0).getD i (0, 0, 0)).1) (fun i => (((items fb nb 0).getD i (0, 0, 0)).2.1 : Int)) (fun i => (((items fb nb 0).getD i (0, 0, 0)).2.2 : Int))) := hI
  have HAD : Hid (0 < (items fb nb 0).length → ad = some ⟨g, 0, none⟩) := hadg
  have HV0 : Hid (v.ownBlock ≠ some g) := fun e => by have := (hown'.lt _ e).2; omega
  have HBD : Hid (∀ k, ((items fb nb 0).getD k (0, 0, 0)).2.1 ≤ nb ∧ ((items fb nb 0).getD k (0, 0, 0)).2.2 ≤ nb) := items_getD_bound fb nb
  clear hI hadg hown' hb3
  generalize items fa na 0 = la at *
  generalize items fb nb 0 = lb at *
  have hst : w3.ownsRow w.heap.size 26 3 v (la ++ shift na (lb.take 0)).length (flat (la ++ shift na (lb.take 0))) := by simpa [shift] using hown3
  clear hg2 hown3
  go_wp2
  go_loopw [5, 22] (fun v i wr => ∃ k : Nat, k ≤ lb.length ∧ i = .int .i64 k ∧ wr.ownsRow w.heap.size 26 3 v (la ++ shift na (lb.take k)).length (flat (la ++ shift na (lb.take k))) ∧ Hid (IsI wr g lb.length (fun i => (lb.getD i (0, 0, 0)).1) (fun i => ((lb.getD i (0, 0, 0)).2.1 : Int)) (fun i => ((lb.getD i (0, 0, 0)).2.2 : Int))) ∧ Hid (v.ownBlock ≠ some g) ∧ Below w.heap.size w wr)
    (fun _ i _ => lb.length - (RowKit.intOf i).toNat)
  case atStart => exact ⟨0, Nat.zero_le _, rfl, hst, HI, HV0, b3⟩
  case round =>
    clear hst HI HV0 b3 b2
    obtain ⟨k, hk, rfl, hown, HIr, HVr, hbel⟩ := hrel
    by_cases hlt : k < lb.length
    · obtain rfl := HAD.out (by omega)
      have hc : wr.cell? ⟨g, k * 3, none⟩ = some (.int .i64 (lb.getD k (0, 0, 0)).1) ∧ wr.cell? ⟨g, k * 3 + 1, none⟩ = some (.int .i64 ((lb.getD k (0, 0, 0)).2.1 : Int)) ∧ wr.cell? ⟨g, k * 3 + 1 + 1, none⟩ = some (.int .i64 ((lb.getD k (0, 0, 0)).2.2 : Int)) := HIr.out k hlt
      obtain ⟨hs1, hs2⟩ := HBD.out k
      have HTK : Hid (la ++ shift na (lb.take (k + 1)) = (la ++ shift na (lb.take k)) ++ [((lb.getD k (0, 0, 0)).1, na + (lb.getD k (0, 0, 0)).2.1, na + (lb.getD k (0, 0, 0)).2.2)]) := (congrArg (la ++ ·) (shift_take na lb k hlt)).trans (List.append_assoc _ _ _).symm
      obtain ⟨p1, p2, p3⟩ := hc
      have hgl : Hid (g < wr.heap.size) := World.block_lt_of_cell? wr _ p1
      have hll : (la ++ shift na (lb.take k)).length ≤ na + k := by simp [shift]; omega
      have HW : Hid (∀ k, u5.ownBlock = some k → w.heap.size ≤ k) := fun k e => (hown.lt _ e).1
      generalize lb.getD k (0, 0, 0) = x at *
      generalize la ++ shift na (lb.take k) = D at *
      obtain ⟨R, s, E⟩ := x
      simp only [] at p1 p2 p3 hs1 hs2
      go_wp2_with (at_builtin; refine wpList_append_lies _ rfl _ _ 23 rfl w.heap.size 26 i0 (.agg #[.int .i64 0, .int .i64 0, .int .i64 0]) 3 24 Tryd.underlying23 hi hz0 hz1 hz2 rfl (by decide) _ _ _ rfl ((hown.alloc _).alloc _) ⟨wr.heap.size + 1, 0, none⟩ 1 1 [.int .i64 R, .int .i64 ((na : Int) + (s : Int)), .int .i64 ((na : Int) + (E : Int))] rfl rfl ?c1 ?c2 (by decide) ?c3 ?c4 ?c5 (wr.heap.size + 2) ?c6 ?_)
      case c2 => first | exact ⟨rfl, rfl, rfl⟩ | simp [Value.oneCell'] | trace_state
      case c3 => unfold maxLen; omega
      case c4 => omega
      case c5 => have := hbel.size; simp; omega
      · intro g' cap' w4 hown4 hgrow hat hlt4
        have R2 := Below.grown (((hbel).alloc hbel.size (.cells #[.int .i64 R, .int .i64 s, .int .i64 E] 26)).alloc (by have := hbel.size; simp; omega) (.cells #[.int .i64 R, .int .i64 ((na : Int) + (s : Int)), .int .i64 ((na : Int) + (E : Int))] 26)) hgrow (by have := hbel.size; simp; omega) HW.out
        have R3 : Hid (IsI w4 g lb.length (fun i => (lb.getD i (0, 0, 0)).1) (fun i => ((lb.getD i (0, 0, 0)).2.1 : Int)) (fun i => ((lb.getD i (0, 0, 0)).2.2 : Int))) := ((HIr.out.al _).al _).grown hgrow (fun e => HVr.out e.symm)
        have R4 : Hid ((Value.slice (some ⟨g', 0, none⟩) (D.length + 1) cap').ownBlock ≠ some g) := by
          intro e
          simp only [Value.ownBlock, Option.some.injEq] at e
          subst e
          rcases hat with h | h
          · exact HVr.out h
          · have := hgl.out; omega
        have R1 : w4.ownsRow w.heap.size 26 3 (.slice (some ⟨g', 0, none⟩) (D.length + 1) cap') (la ++ shift na (lb.take (k + 1))).length (flat (la ++ shift na (lb.take (k + 1)))) := by
          rw [HTK.out, flat_append, flat_one, List.length_append, Int.natCast_add, Int.natCast_add]
          exact hown4
        clear hown4 hgrow hat hown hbel p1 p2 p3 HIr HVr HTK
        go_wp2
        go_roundw
        case rel => exact ⟨k + 1, by omega, by go_num, R1, R3, R4, R2⟩
        case measure => simp [RowKit.intOf]; omega
    · obtain rfl : k = lb.length := by omega
      rw [List.take_length] at hown
      have c1 := hbel.alloc hbel.size (.cells #[.slice aa na ca, .slice ab nb cb] 22)
      have CC := concat_any wr.heap.size na ca nb cb aa ab fa fb (wr.alloc (.cells #[.slice aa na ca, .slice ab nb cb] 22)) (by simp) (by simp) (HA.out.below c1) (HB.out.below c1) HNA.out HNB.out (by omega)
      have hown1 := hown.alloc (.cells #[.slice aa na ca, .slice ab nb cb] 22)
      have HO1 : Hid ((wr.alloc (.cells #[.slice aa na ca, .slice ab nb cb] 22)).ownsRow w.heap.size 26 3 u5 (la ++ shift na lb).length (flat (la ++ shift na lb))) := hown1
      clear hown hown1 HIr HVr hbel HAD HBD
      go_wp2_with fail
      refine CC.mono ?_
      rintro e w5 ⟨vC, rfl, hownC, hb5⟩
      obtain ⟨aC, cC, rfl, hBC⟩ := isB_two hownC
      have b5 := c1.trans (hb5.mono c1.size)
      have HO5 : Hid (w5.ownsRow w.heap.size 26 3 u5 (la ++ shift na lb).length (flat (la ++ shift na lb))) := own_below HO1.out hb5
      have DC := decode_any aC (na + nb) cC (both fa fb na) w5 hBC hn (both_range na Hra.out Hrb.out)
      rw [HIT.out] at DC
      clear CC hownC hb5 c1 HO1 hBC
      go_wp2_with fail
      refine DC.mono ?_
      rintro e w6 ⟨vD, rfl, hownD, hb6⟩
      have b6 := b5.trans (hb6.mono b5.size)
      have EQ := equal_own w6 hownD (own_below HO5.out hb6)
      clear DC hownD HO5 hb6 b5
      go_wp2_with fail
      refine EQ.mono ?_
      rintro e w7 ⟨rfl, hb7⟩
      have b7 := b6.trans (hb7.mono b6.size)
      have AW := awake_any w7 (HM.out.below b7)
      clear EQ hb7 b6
      go_wp2_with (go_at_call 8; refine AW.mono ?_; rintro e w' ⟨rfl, hbel⟩)
      go_ret
      exact ⟨rfl, b7.trans (Below.mono (by assumption) b7.size)⟩

theorem joins_any (aa : Option Addr) (na ca : Nat) (fa : Nat → Int) (ab : Option Addr) (nb cb : Nat) (fb : Nat → Int) (w : World) (hm : Marks w) (hA : IsB w aa na fa) (hB : IsB w ab nb fb)
    (hn : na * 48 ≤ 140737488355328 ∧ na ≤ ca ∧ ca ≤ 9223372036854775807 ∧ (aa = none → na = 0) ∧ (aa = none → ca = 0)) (hn2 : nb * 48 ≤ 140737488355328 ∧ nb ≤ cb ∧ cb ≤ 9223372036854775807 ∧ (ab = none → nb = 0) ∧ (ab = none → cb = 0))
    (ha : ∀ i, 0 ≤ fa i ∧ fa i ≤ 255) (hb : ∀ i, 0 ≤ fb i ∧ fb i ≤ 255) :
    Calls Tryd.prog 4 #[.slice aa na ca, .slice ab nb cb] w fun e w' => e = .returned (.bool true) ∧ Below w.heap.size w w' := by
  cases hv : valid fa na 0 with
  | false => exact joins_no aa ab na ca nb cb fa w hm hA (by omega) hn.2.1 hn.2.2.1 ha hv
  | true => exact joins_yes aa ab na ca nb cb fa fb w hm hA hB (by omega) (fun e => ⟨hn.2.2.2.1 e, hn.2.2.2.2 e⟩) (fun e => ⟨hn2.2.2.2.1 e, hn2.2.2.2.2 e⟩) ha hb hv
end Go.Proofs.YtamcaomenbgabaaDoor.utf
