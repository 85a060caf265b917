/- Texts that the proof leans on, one behind the other. -/
import Derived.Test.YtlgkfnecahgedabGreatDoorBdTok9
import Derived.Test.YtlgkfnecahgedabGreatDoorBdTok8
import Derived.Laws.AppendOwnNone

section
/- What TokenJoins' walk leans on. -/
set_option linter.unusedVariables false
set_option linter.unusedSimpArgs false
namespace Go.Proofs.YtlgkfnecahgedabGreatDoor.tok
open Go.RowKit
open utf (len enc)
open lin (BA Turns)

theorem ArgI.below {W W' : World} {v : Value} {l : List Int} (h : ArgI W v l) (hb : Below W.heap.size W W') : ArgI W' v l := by
  obtain ⟨ao, cap, rfl, hc, rest⟩ := h
  refine ⟨ao, cap, rfl, fun h0 => ?_, rest⟩
  obtain ⟨b, o, e, hx⟩ := hc h0
  exact ⟨b, o, e, fun j hj => (hb.cell (World.block_lt_of_cell? W _ (hx j hj))).trans (hx j hj)⟩
/-- A list's numbers by their places. -/
def fL (L : List Int) : Nat → Int := fun i => L.getD i 0
theorem lst_fL (L : List Int) : utf.lst (fL L) L.length = L := by
  apply List.ext_getElem?
  intro i
  unfold utf.lst fL
  rw [List.getElem?_map]
  by_cases hi : i < L.length
  · rw [List.getElem?_range hi]
    simp [List.getD_eq_getElem?_getD, List.getElem?_eq_getElem hi]
  · rw [List.getElem?_eq_none (by simpa using hi), List.getElem?_eq_none (by omega)]
    rfl
/-- A row of bytes of a call's own, as it is read. -/
theorem own_isB {w : World} {B : Nat} {v : Value} {L : List Int} (h : w.ownsRow B 5 1 v L.length (L.map (Value.int .u8))) :
    ∃ ao cap, v = .slice ao L.length cap ∧ utf.IsB w ao L.length (fL L) ∧ L.length ≤ cap ∧ cap ≤ 9223372036854775807 ∧ (ao = none → L.length = 0 ∧ cap = 0) := by
  rcases id h.2 with ⟨rfl, h0⟩ | ⟨g, cap, cur, rfl, _, _, hc, hm, _⟩
  · rw [h0]; exact ⟨none, 0, rfl, .inl rfl, by omega, by omega, fun _ => ⟨rfl, rfl⟩⟩
  · have h' := h
    rw [← lst_fL L, utf.lst_length] at h'
    obtain ⟨ao, cap', e, hB, h1, h2, h3⟩ := utf.isB_own h'
    injection e with e1 e2 e3
    subst e1
    unfold maxLen at hm
    exact ⟨_, cap, rfl, hB, hc, by omega, fun e => by cases e⟩
theorem clone_own {w : World} {B : Nat} {v : Value} {L : List Int} (h : w.ownsRow B 5 1 v L.length (L.map (Value.int .u8))) (hn : L.length ≤ 10000) :
    Calls Tryz.prog 7 #[v] w fun e w' => ∃ v', e = .returned v' ∧ w'.ownsRow w.heap.size 5 1 v' L.length (L.map (Value.int .u8)) ∧ Below w.heap.size w w' := by
  obtain ⟨ao, cap, rfl, hB, h1, h2, h3⟩ := own_isB h
  cases ao with
  | none =>
    obtain ⟨h4, rfl⟩ := h3 rfl
    obtain rfl := List.eq_nil_of_length_eq_zero h4
    refine (utf.clone_nil 0 w).mono ?_
    rintro e w' ⟨rfl, rfl⟩
    exact ⟨_, rfl, World.ownsRow_nil _ _ _ _, Below.refl _ _⟩
  | some ad =>
    refine (utf.clone_some ad L.length cap (fL L) w hB (by omega)).mono ?_
    rintro e w' ⟨v, rfl, ho, hb⟩
    rw [lst_fL] at ho
    exact ⟨v, rfl, ho, hb⟩
/-- append(dst, src...), dst the call's own, src nil or not. -/
theorem append_src {w : World} {ops : Array Oper} {rest : List Oper} {o : Oper} {a : Act} {Q : Exit → Act → World → Prop} (hgd : o.guard = none) (s x : Operand)
    (ho : o.op = .call { callee := .builtin .append, args := #[s, x], argTypes := #[23, 23] })
    (base : Nat) (i : TypeInfo) (hi : Tryz.prog.info? 5 = some i) (hz : i.zero = some (.int .u8 0)) (hsize : i.size = 1) (hby : i.bytes = 1)
    (v : Value) (n : Nat) (xs : List Value) (hs : a.eval s = v) (hown : w.ownsRow base 5 1 v n xs)
    (ao : Option Addr) (m c : Nat) (news : List Value) (hx : a.eval x = .slice ao m c) (hl : news.length = m) (hnil : ao = none → m = 0 ∧ c = 0)
    (hnews : ∀ ad, ao = some ad → ∀ j u, news[j]? = some u → w.cell? (ad.add j) = some u) (h1 : ∀ u ∈ news, u.oneCell' = true)
    (h63 : n + m ≤ maxLen) (hbytes : (n + m) * 1 ≤ 140737488355328) (hbase : base ≤ w.heap.size)
    (h : ∀ v' w', w'.ownsRow base 5 1 v' (n + m) (xs ++ news) → w.grownBy w' v.ownBlock → wpList Tryz.prog ops Q rest (a.put o.dst v') w') : wpList Tryz.prog ops Q (o :: rest) a w := by
  cases ao with
  | none =>
    obtain ⟨rfl, rfl⟩ := hnil rfl
    obtain rfl := List.eq_nil_of_length_eq_zero hl
    refine wpList_append_own_none hgd s x 23 ho base 5 i 1 Tryz.underlying23 hi v n xs hs hown hx (h v w ?_ ⟨rfl, rfl, rfl, Nat.le_refl _, fun _ _ _ => rfl⟩)
    simpa using hown
  | some ad =>
    exact wpList_append_own w hgd s x 23 ho base 5 i (.int .u8 0) 1 1 Tryz.underlying23 hi hz hsize hby rfl (by decide) v n xs hs hown ad m c news hx (by simpa using hl) (hnews ad rfl) h1 h63 hbytes hbase (fun v' w' h2 h3 _ => h v' w' h2 h3)
theorem isB_news {w : World} {ao : Option Addr} {L : List Int} (h : utf.IsB w ao L.length (fL L)) : ∀ ad, ao = some ad → ∀ (j : Nat) (u : Value), (L.map (Value.int .u8))[j]? = some u → w.cell? (ad.add j) = some u := by
  intro ad e j u hj
  have hjl : j < L.length := by
    rcases Nat.lt_or_ge j L.length with h | h
    · exact h
    · rw [List.getElem?_eq_none (by simpa using h)] at hj; cases hj
  rcases h with h0 | ⟨b, off, e', hc⟩
  · omega
  · rw [e'] at e
    obtain rfl : (⟨b, off, none⟩ : Addr) = ad := Option.some.inj e
    rw [Addr.add_lit, hc j hjl]
    rw [List.getElem?_map, List.getElem?_eq_getElem hjl] at hj
    simp [fL, List.getD_eq_getElem?_getD, List.getElem?_eq_getElem hjl] at hj ⊢
    exact hj
/-- The tokens of two quoted texts. -/
theorem scan_two (l m : List Int) (hl : l.length ≤ 50) (hm : m.length ≤ 50) : ∃ T : List Tk, scanL (fL (quo l ++ quo m)) (quo l ++ quo m).length = (T, 0, 0) ∧ T.length = cntQ l + cntQ m ∧ ∀ t ∈ T, t.kind = 1 := by
  have h1 := quo_len l
  have h2 := quo_len m
  rw [← quo_app, ← cntQ_app]
  have hlen : (quo (l ++ m)).length ≤ 2000 := by rw [quo_app, List.length_append]; omega
  have hs := scan_quo (fL (quo (l ++ m))) (quo (l ++ m)).length (l ++ m) 0 ⟨by omega, fun i _ => by rw [Nat.zero_add]; rfl⟩ (by omega)
  rw [scanL_A _ _ hlen]
  generalize scanA (fL (quo (l ++ m))) (quo (l ++ m)).length 0 0 = Q at *
  obtain ⟨T, q⟩ := Q
  obtain ⟨h3, h4, h5⟩ := hs
  simp only [] at h3 h4 h5
  exact ⟨T, by rw [h3], h4, h5⟩

end Go.Proofs.YtlgkfnecahgedabGreatDoor.tok
end

section
/- TokenJoins: the walk. -/
set_option linter.unusedVariables false
set_option linter.unusedSimpArgs false
namespace Go.Proofs.YtlgkfnecahgedabGreatDoor.tok
open Go.RowKit
open utf (len enc)
open lin (BA Turns)

set_option maxHeartbeats 1000000 in
set_option maxRecDepth 1000000 in
theorem joins_w (v : Value) (l : List Int) (u : Value) (m : List Int) (w : World) (h : ArgI w v l) (h' : ArgI w u m) (E : PEnv w) : Calls Tryz.prog 3 #[v, u] w fun e w' => e = .returned (.bool true) ∧ Below w.heap.size w w' := by
  obtain ⟨i0, hi, hz0, hz1, hz2⟩ := info_parts utf.infoByte
  have HE : Hid (PEnv w) := E
  have C1 := quoted_any v l w h E
  have HQ : Hid (∀ W, Below w.heap.size w W → Calls Tryz.prog 4 #[u] W fun e w' => ∃ v', e = .returned (.tuple #[v', .int .i64 (cntQ (m.take 50) : Nat)]) ∧ w'.ownsRow W.heap.size 5 1 v' (quo (m.take 50)).length ((quo (m.take 50)).map (Value.int .u8)) ∧ Below W.heap.size W w') := fun W b => quoted_any u m W (h'.below b) (HE.out.below b)
  obtain ⟨T, hT, hTl, hTk⟩ := scan_two (l.take 50) (m.take 50) (by rw [List.length_take]; omega) (by rw [List.length_take]; omega)
  have hA := quo_len (l.take 50)
  have hB := quo_len (m.take 50)
  have hcA := cntQ_le (l.take 50)
  have hcB := cntQ_le (m.take 50)
  have hl50 : (l.take 50).length ≤ 50 := by rw [List.length_take]; omega
  have hm50 : (m.take 50).length ≤ 50 := by rw [List.length_take]; omega
  have hrA := quo_range (l.take 50)
  have hrB := quo_range (m.take 50)
  generalize hqa : quo (l.take 50) = A at *
  generalize hqb : quo (m.take 50) = B at *
  generalize cntQ (l.take 50) = ca at *
  generalize cntQ (m.take 50) = cb at *
  have hAl : A.length ≤ 300 := by omega
  have hBl : B.length ≤ 300 := by omega
  have hca : ca ≤ 50 := by omega
  have hcb : cb ≤ 50 := by omega
  have HSC : Hid (∀ (ao' : Option Addr) (cap' : Nat) W, utf.IsB W ao' (A ++ B).length (fL (A ++ B)) → utf.Marks W → (A ++ B).length ≤ cap' → cap' ≤ 9223372036854775807 → Calls Tryz.prog 6 #[.slice ao' (A ++ B).length cap'] W fun e w' => ∃ tv, e = .returned (.tuple #[tv, .agg #[.int .i64 0, .int .i64 0]]) ∧ w'.ownsRow W.heap.size 35 8 tv T.length (flatT T) ∧ Below W.heap.size W w') := fun ao' cap' W hb hm hc hcm => by
    have := scan_any ao' (A ++ B).length cap' (fL (A ++ B)) W hb hm (by
      intro i
      unfold fL
      rcases Nat.lt_or_ge i A.length with h | h
      · have := hrA i
        simpa [List.getD, List.getElem?_append_left h] using this
      · have := hrB (i - A.length)
        simpa [List.getD, List.getElem?_append_right h] using this) hc hcm
    rw [hT] at this
    exact this
  obtain ⟨N, hN⟩ : ∃ N, (A ++ B).length = N := ⟨_, rfl⟩
  rw [hN] at HSC
  have HN : Hid ((A ++ B).length = N) := hN
  clear hN
  have HTK : Hid (∀ t ∈ T, t.kind = 1) := hTk
  clear hT hTk hrA hrB hA hB hcA hcB hl50 hm50 hqa hqb E h h'
  go_enter Tryz.func3, Tryz.ntmps3
  go_wp2_with fail
  refine C1.mono ?_
  rintro e w1 ⟨v1, rfl, ho1, hb1⟩
  clear C1
  have C2 := HQ.out w1 hb1
  have HO1 : Hid (w1.ownsRow w.heap.size 5 1 v1 A.length (A.map (Value.int .u8))) := ho1
  have HB1 : Hid (Below w.heap.size w w1) := hb1
  clear ho1 hb1 HQ
  go_wp2_with fail
  refine C2.mono ?_
  rintro e w2 ⟨v2, rfl, ho2, hb2⟩
  clear C2
  have HB2 : Hid (Below w.heap.size w w2) := HB1.out.trans (hb2.mono HB1.out.size)
  have C3 := clone_own (utf.own_below HO1.out hb2) (by omega)
  obtain ⟨ao2, cp2, rfl, hB2, hc2, hcm2, hn2⟩ := own_isB ho2
  have HI2 : Hid (utf.IsB w2 ao2 B.length (fL B)) := hB2
  have HN2 : Hid (ao2 = none → B.length = 0 ∧ cp2 = 0) := hn2
  clear ho2 hb2 HO1 HB1 hB2 hn2
  go_wp2_with fail
  refine C3.mono ?_
  rintro e w3 ⟨v3, rfl, ho3, hb3⟩
  clear C3
  have HB3 : Hid (Below w.heap.size w w3) := HB2.out.trans (hb3.mono HB2.out.size)
  have HNW : Hid (∀ ad, ao2 = some ad → ∀ (j : Nat) (u : Value), (B.map (Value.int .u8))[j]? = some u → w3.cell? (ad.add j) = some u) := isB_news (HI2.out.below hb3)
  have HO3 : Hid (w3.ownsRow w2.heap.size 5 1 v3 A.length (A.map (Value.int .u8))) := ho3
  have HV3 : Hid (∀ j, v3.ownBlock = some j → w2.heap.size ≤ j) := fun j e => (ho3.lt _ e).1
  have hsz3 := hb3.size
  have HS2 : Hid (w.heap.size ≤ w2.heap.size) := HB2.out.size
  have HB23 : Hid (Below w2.heap.size w2 w3) := hb3
  clear ho3 hb3 HI2
  go_wp2_with (at_builtin; refine append_src rfl _ _ rfl w2.heap.size i0 hi hz0 hz1 hz2 _ _ _ rfl HO3.out ao2 B.length cp2 (B.map (Value.int .u8)) rfl ?c0 HN2.out HNW.out ?c1 ?c2 ?c3 ?c4 ?_)
  case c0 => simp
  case c1 => intro u hu; simp at hu; obtain ⟨x, _, rfl⟩ := hu; rfl
  case c2 => unfold maxLen; omega
  case c3 => omega
  case c4 => exact hsz3
  intro v4 w4 ho4 hg4
  have hb4 : Below w2.heap.size w2 w4 := Below.grown HB23.out hg4 hsz3 HV3.out
  have HB4 : Hid (Below w.heap.size w w4) := HB2.out.trans (hb4.mono HS2.out)
  rw [← List.map_append, ← List.length_append] at ho4
  obtain ⟨ao4, cp4, e4, hB4, hc4, hcm4, hn4⟩ := own_isB ho4
  rw [HN.out] at e4 hB4 hc4
  subst e4
  have C5 := HSC.out ao4 cp4 w4 hB4 (HE.out.below HB4.out).mks hc4 hcm4
  clear ho4 hg4 hb4 hB4 hn4 HN HSC HNW HO3 HV3 hsz3 HS2 HB23 HB2 HB3 HN2
  go_wp2_with fail
  refine C5.mono ?_
  rintro e w5 ⟨v5, rfl, ho5, hb5⟩
  clear C5
  obtain ⟨ta, tc, rfl, htc, hv5⟩ := tok_view ho5
  obtain ⟨W5, hW5⟩ : ∃ W, w5.alloc (.cells #[.int .i64 0, .int .i64 0] 30) = W := ⟨_, rfl⟩
  have b5 : Below w5.heap.size w5 W5 := by rw [← hW5]; exact (Below.refl _ _).alloc (Nat.le_refl _) _
  have G5 : W5.heap[w5.heap.size]? = some (.cells #[.int .i64 0, .int .i64 0] 30 (0, 0)) := by rw [← hW5]; exact World.alloc_heap_new _ _
  have HB5 : Hid (Below w.heap.size w W5) := (HB4.out.trans (hb5.mono HB4.out.size)).trans (b5.mono (Nat.le_trans HB4.out.size hb5.size))
  have HG5 : Hid (W5.heap[w5.heap.size]? = some (.cells #[.int .i64 0, .int .i64 0] 30 (0, 0))) := G5
  have HAT : Hid (∀ i, i < T.length → ∃ g, ta = some ⟨g, 0, none⟩ ∧ ∃ t : Tk, t.kind = 1 ∧ TkAt W5 g (i * 8) t) := fun i hi => by
    obtain ⟨g, e, _, _, hat⟩ := hv5 (by omega)
    refine ⟨g, e, T[i], HTK.out _ (List.getElem_mem hi), (hat i _ (List.getElem?_eq_getElem hi)).below b5⟩
  have hTs : T.length ≤ 100 := by omega
  clear ho5 hb5 b5 G5 hv5 HB4 HTK
  obtain ⟨n, hn⟩ : ∃ n, T.length = n := ⟨_, rfl⟩
  rw [hn] at hTl hTs htc HAT
  have HNL : Hid (n = ca + cb) := hTl
  have HW5 : Hid (w5.alloc (.cells #[.int .i64 0, .int .i64 0] 30) = W5) := hW5
  clear hW5 hTl
  rw [hn]
  clear hn
  go_wp2
  rw [HW5.out]
  clear HW5
  go_loopw [36] (fun i wr => ∃ k : Nat, k ≤ n ∧ i = .int .i64 k ∧ Hid (Below W5.heap.size W5 wr)) (fun i _ => n - (RowKit.intOf i).toNat)
  case atStart => exact ⟨0, Nat.zero_le _, rfl, Below.refl _ _⟩
  case round =>
    obtain ⟨k, hk, rfl, HR⟩ := hrel
    by_cases hlt : k < n
    · have hlt' : (k : Int) < (n : Int) := by omega
      have hk0 : (0 : Int) ≤ (k : Int) := by omega
      obtain ⟨g, rfl, t, ht1, hat⟩ := HAT.out k hlt
      have A1 := hat.below HR.out
      have c0 := A1.c0
      have c1 := A1.c1
      have c2 := A1.c2
      have c3 := A1.c3
      have c4 := A1.c4
      have c5 := A1.c5
      have c6 := A1.c6
      have c7 := A1.c7
      rw [ht1] at c0
      have HR2 : ∀ o, Hid (Below W5.heap.size W5 (wr.alloc o)) := fun o => HR.out.alloc HR.out.size _
      clear hat A1 HR ht1
      go_wp2
      go_roundw
      case rel => exact ⟨k + 1, by omega, by go_num, HR2 _⟩
      case measure => (first | simp [intOf] | simp [Go.RowKit.intOf]); omega
    · obtain rfl : k = n := by omega
      have hlt' : ¬ (k : Int) < (k : Int) := by omega
      have G := (HR.out.block _ (Array.getElem?_eq_some_iff.1 HG5.out).1).trans HG5.out
      obtain ⟨g0, g1, -, -⟩ := nam.blk2 G
      have hB6 : Below w.heap.size w wr := HB5.out.trans (HR.out.mono HB5.out.size)
      have HB6 : Hid (Below w.heap.size w wr) := hB6
      have AW := awake_any wr (HE.out.below hB6).mks
      have hTl := HNL.out
      have hsum : ((ca : Int) + (cb : Int)) = (k : Int) := by omega
      have hw : IntKind.i64.wrap ((ca : Int) + (cb : Int)) = (k : Int) := by rw [IntKind.wrap_i64]; omega
      clear G HR HB5 HG5 hB6 HAT hTl HNL
      go_wp2_with fail
      refine AW.mono ?_
      rintro e w' ⟨rfl, hbel⟩
      go_wp2
      go_ret
      exact ⟨rfl, HB6.out.trans (hbel.mono HB6.out.size)⟩
end Go.Proofs.YtlgkfnecahgedabGreatDoor.tok
end
