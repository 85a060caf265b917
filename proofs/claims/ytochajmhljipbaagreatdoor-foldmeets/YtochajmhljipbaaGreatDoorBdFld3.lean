/- Texts that the proof leans on, one behind the other. -/
import Derived.Test.YtochajmhljipbaaGreatDoorBdFld2
import Derived.Test.YtochajmhljipbaaGreatDoorBdPrp9
import Derived.Deep.QuietTactic
import Derived.BigQuiet

section
/- FoldTells, FoldCloses, FoldTwice: the walks. -/
set_option linter.unusedVariables false
set_option linter.unusedSimpArgs false
namespace Go.Proofs.YtochajmhljipbaaGreatDoor.fld
open Go.RowKit Go.Maps
open Go.Proofs.YtochajmhljipbaaGreatDoor.lin Go.Proofs.YtochajmhljipbaaGreatDoor.prp
open Go.Proofs.YtochajmhljipbaaGreatDoor.rng (R has IsSet Sl code CanF)

theorem full_len (r : Int) : (foldF true r).length ≤ 4 := foldF_len true r
set_option maxHeartbeats 8000000 in
set_option maxRecDepth 1000000 in
theorem tells_walk (v : Value) (l : List Int) (b : Int) (w : World) (h : ArgN w v l) (hb : okI b) (E : Env w) : Calls Tryz.prog 3 #[v, .int .i64 b] w fun e w' => e = .returned (.bool true) ∧ Below w.heap.size w w' := by
  have HE : Hid (Env w) := E
  have C := load_any w E
  have HBO : Hid (okI b) := hb
  obtain ⟨ao, cap, rfl, hcells, hok, hlen⟩ := h
  have HC : Hid (∀ (k : Nat), k < l.length → ∃ r b o, ao = some ⟨b, o, none⟩ ∧ w.cell? ⟨b, o + k, none⟩ = some (.int .i64 r) ∧ okI r) := fun k hk => by
    rcases hcells with h0 | ⟨b, o, e, hc⟩
    · omega
    · exact ⟨l[k], b, o, e, hc k _ (List.getElem?_eq_getElem hk), hok _ (List.getElem_mem hk)⟩
  clear hcells hok E hb
  generalize l.length = nl at *
  have HAW : Hid (∀ W, Below w.heap.size w W → Calls Tryz.prog 18 #[] W fun e w' => e = .returned (.bool true) ∧ Below W.heap.size W w') := fun W hb => awake_any W (HE.out.below hb)
  go_enter Tryz.func3, Tryz.ntmps3
  go_wp2_with fail
  refine C.mono ?_
  rintro e w1 ⟨t, rfl, ht, b1⟩
  clear C
  have HT1 : Hid (Tabs w1 t) := ht
  clear ht
  have C := rload_any w1
  go_wp2_with fail
  refine C.mono ?_
  rintro e w2 ⟨u, rfl, hu, b2⟩
  clear C
  have HT2 : Hid (Tabs w2 t) := HT1.out.below b2
  have HU2 : Hid (RTabs w2 u) := hu
  have HB2 : Hid (Below w.heap.size w w2) := b1.trans (b2.mono b1.size)
  clear hu b1 b2 HT1
  go_wp2
  go_loopw [13] (fun i wr => ∃ k : Nat, k ≤ nl ∧ i = .int .i64 k ∧ Hid (Tabs wr t) ∧ Hid (RTabs wr u) ∧ Hid (Below w.heap.size w wr)) (fun i _ => nl - (RowKit.intOf i).toNat)
  case atStart => exact ⟨0, Nat.zero_le _, rfl, HT2, HU2, HB2⟩
  case round =>
    clear HT2 HU2 HB2
    obtain ⟨k, hk, rfl, HT0, HU0, HB0⟩ := hrel
    by_cases hlt : k < nl
    · have hlt' : (k : Int) < (nl : Int) := by omega
      obtain ⟨r, b', o, rfl, hc0, hr⟩ := HC.out k hlt
      have hc := cell_below HB0.out hc0
      have HR : Hid (okI r) := hr
      clear hr hc0
      by_cases h60 : 60 < k
      · have h60' : (60 : Int) < (k : Int) := by omega
        have C := HAW.out wr HB0.out
        go_wp2_with fail
        refine C.mono ?_
        rintro e w9 ⟨rfl, b9⟩
        clear C
        go_wp2
        go_ret
        exact ⟨rfl, HB0.out.trans (b9.mono HB0.out.size)⟩
      · have h60' : ¬ (60 : Int) < (k : Int) := by omega
        generalize hwr : wr = x0 at *
        clear hwr
        obtain ⟨S, hS⟩ : ∃ S, sim r = S := ⟨_, rfl⟩
        have HS : Hid (sim r = S) := hS
        clear hS
        have hSS : (S != S) = false := by simp
        have C := simple_t t r x0 HT0.out HR.out
        rw [(HS.out : sim r = S)] at C
        go_wp2_with fail
        refine C.mono ?_
        rintro e x1 ⟨rfl, hb⟩
        clear C
        have HT1 : Hid (Tabs x1 t) := HT0.out.below hb
        have HU1 : Hid (RTabs x1 u) := HU0.out.below hb
        have HB1 : Hid (Below w.heap.size w x1) := HB0.out.trans (hb.mono HB0.out.size)
        clear HT0 HU0 HB0 hb
        have C := rsimple_t u r x1 HU1.out HR.out
        rw [(HS.out : sim r = S)] at C
        go_wp2_with fail
        refine C.mono ?_
        rintro e x2 ⟨rfl, hb⟩
        clear C
        have HT2 : Hid (Tabs x2 t) := HT1.out.below hb
        have HU2 : Hid (RTabs x2 u) := HU1.out.below hb
        have HB2 : Hid (Below w.heap.size w x2) := HB1.out.trans (hb.mono HB1.out.size)
        clear HT1 HU1 HB1 hb
        have C := full_t t r x2 HT2.out HR.out
        go_wp2_with fail
        refine C.mono ?_
        rintro e x3 ⟨va, rfl, hv, hb⟩
        clear C
        have HA : Hid (IV x3 va (foldF true r)) := hv.iv
        have HT3 : Hid (Tabs x3 t) := HT2.out.below hb
        have HU3 : Hid (RTabs x3 u) := HU2.out.below hb
        have HB3 : Hid (Below w.heap.size w x3) := HB2.out.trans (hb.mono HB2.out.size)
        clear HT2 HU2 HB2 hb hv
        have C := rfull_t u r x3 HU3.out HR.out
        go_wp2_with fail
        refine C.mono ?_
        rintro e x4 ⟨vb, rfl, hv, hb⟩
        clear C
        have HV : Hid (IV x4 vb (foldF true r)) := hv
        have HA4 : Hid (IV x4 va (foldF true r)) := HA.out.below hb
        have HT4 : Hid (Tabs x4 t) := HT3.out.below hb
        have HU4 : Hid (RTabs x4 u) := HU3.out.below hb
        have HB4 : Hid (Below w.heap.size w x4) := HB3.out.trans (hb.mono HB3.out.size)
        clear HT3 HU3 HB3 hb hv HA
        have C := iequal_any va vb (foldF true r) x4 HA4.out HV.out (by have := full_len r; omega)
        go_wp2_with fail
        refine C.mono ?_
        rintro e x5 ⟨rfl, hb⟩
        clear C
        have HT5 : Hid (Tabs x5 t) := HT4.out.below hb
        have HU5 : Hid (RTabs x5 u) := HU4.out.below hb
        have HB5 : Hid (Below w.heap.size w x5) := HB4.out.trans (hb.mono HB4.out.size)
        clear HT4 HU4 HB4 hb HA4 HV
        obtain ⟨Q, hQ⟩ : ∃ Q, (sim r == sim b) = Q := ⟨_, rfl⟩
        have HQ : Hid ((sim r == sim b) = Q) := hQ
        clear hQ
        have hQQ : (Q != Q) = false := by simp
        have C := same_t t r b x5 HT5.out HR.out HBO.out
        rw [(HQ.out : (sim r == sim b) = Q)] at C
        go_wp2_with fail
        refine C.mono ?_
        rintro e x6 ⟨rfl, hb⟩
        clear C
        have HT6 : Hid (Tabs x6 t) := HT5.out.below hb
        have HU6 : Hid (RTabs x6 u) := HU5.out.below hb
        have HB6 : Hid (Below w.heap.size w x6) := HB5.out.trans (hb.mono HB5.out.size)
        clear HT5 HU5 HB5 hb
        have C := rsame_t u r b x6 HU6.out HR.out HBO.out
        rw [(HQ.out : (sim r == sim b) = Q)] at C
        go_wp2_with fail
        refine C.mono ?_
        rintro e x7 ⟨rfl, hb⟩
        clear C
        have HT7 : Hid (Tabs x7 t) := HT6.out.below hb
        have HU7 : Hid (RTabs x7 u) := HU6.out.below hb
        have HB7 : Hid (Below w.heap.size w x7) := HB6.out.trans (hb.mono HB6.out.size)
        clear HT6 HU6 HB6 hb
        go_wp2
        exact ⟨⟨k + 1, by omega, by go_num, HT7, HU7, HB7⟩, by simp [RowKit.intOf]; omega⟩
    · have hge : ¬ (k : Int) < (nl : Int) := by omega
      have C := HAW.out wr HB0.out
      go_wp2_with fail
      refine C.mono ?_
      rintro e w9 ⟨rfl, b9⟩
      clear C
      go_wp2
      go_ret
      exact ⟨rfl, HB0.out.trans (b9.mono HB0.out.size)⟩

theorem tells_walk2 (v : Value) (l : List Int) (b : Int) (w : World) (h : ArgN w v l) (h1 : -9223372036854775808 ≤ b) (h2 : b ≤ 9223372036854775807) (E : Env w) : Calls Tryz.prog 3 #[v, .int .i64 b] w fun e w' => e = .returned (.bool true) ∧ Below w.heap.size w w' := tells_walk v l b w h ⟨h1, h2⟩ E
/-- The argument's first n ranges. -/
theorem arg_take {w : World} {ao : Option Addr} {len cap : Nat} {l : List R} (h : rng.Arg w (.slice ao len cap) l) (n : Nat) (hn : n ≤ l.length) : Sl w (.slice ao n cap) (l.take n) := by
  obtain ⟨a, c, e, hv, h0, _⟩ := h
  cases e
  exact ⟨_, _, by rw [List.length_take, Nat.min_eq_left hn], hv.take n, h0⟩
set_option maxHeartbeats 4000000 in
set_option maxRecDepth 1000000 in
theorem closes_walk (v : Value) (l : List R) (w : World) (h : rng.Arg w v l) (E : Env w) : Calls Tryz.prog 4 #[v] w fun e w' => e = .returned (.bool true) ∧ Below w.heap.size w w' := by
  have HE : Hid (Env w) := E
  have HA : Hid (rng.Arg w v l) := h
  obtain ⟨ao, cap, rfl, hcells, hnil, hcap, hmax⟩ := h
  obtain ⟨n, hn⟩ : ∃ n, min l.length 30 = n := ⟨_, rfl⟩
  have hnl : n ≤ l.length := by omega
  have hn30 : n ≤ 30 := by omega
  have HV : Hid (Sl w (.slice ao n cap) (l.take n)) := arg_take HA.out n hnl
  have HLN : Hid ((l.take n).length = n) := by show _ = _; rw [List.length_take]; omega
  have C := rng.clone_s (.slice ao n cap) (l.take n) w HV.out (by rw [HLN.out]; omega)
  have hmin : min (l.length : Int) 30 = (n : Int) := by omega
  have hmin2 : (if (l.length : Int) < 30 then (l.length : Int) else 30) = (n : Int) := by split <;> omega
  have hmin3 : (if (30 : Int) < (l.length : Int) then 30 else (l.length : Int)) = (n : Int) := by split <;> omega
  have hmin4 : (if (l.length : Int) ≤ 30 then (l.length : Int) else 30) = (n : Int) := by split <;> omega
  have hncap : (n : Int) ≤ (cap : Int) := by omega
  have hn0 : (0 : Int) ≤ (n : Int) := by omega
  generalize hLN : l.take n = LN at *
  generalize l.length = ll at *
  clear hcells hLN HA E hnil hn
  go_enter Tryz.func4, Tryz.ntmps4
  go_wp2_with fail
  refine C.mono ?_
  rintro e w1 ⟨gv, rfl, hgo, b1⟩
  clear C
  have HG1 : Hid (Sl w1 gv LN) := hgo
  have HB1 : Hid (Below w.heap.size w w1) := b1
  clear hgo b1
  have C := load_any w1 (HE.out.below HB1.out)
  go_wp2_with fail
  refine C.mono ?_
  rintro e w2 ⟨t, rfl, ht, b2⟩
  clear C
  have HB2 : Hid (Below w.heap.size w w2) := HB1.out.trans (b2.mono HB1.out.size)
  have HG2 : Hid (Sl w2 gv LN) := HG1.out.below b2
  have C := closure_t t gv LN w2 ht (HE.out.below HB2.out) HG2.out (by rw [HLN.out]; omega)
  clear ht b2 HB1 HG1
  go_wp2_with fail
  refine C.mono ?_
  rintro e w3 ⟨ov, r, rfl, ho, hr, b3⟩
  clear C
  have HB3 : Hid (Below w.heap.size w w3) := HB2.out.trans (b3.mono HB2.out.size)
  have HG3 : Hid (Sl w3 gv LN) := HG2.out.below b3
  have HO3 : Hid (Sl w3 ov r) := ho
  have HR : Hid (IsClo r LN) := hr
  clear ho b3 HB2 HG2 hr
  have C := rload_any w3
  go_wp2_with fail
  refine C.mono ?_
  rintro e w4 ⟨u, rfl, hu, b4⟩
  clear C
  have HB4 : Hid (Below w.heap.size w w4) := HB3.out.trans (b4.mono HB3.out.size)
  have HG4 : Hid (Sl w4 gv LN) := HG3.out.below b4
  have HO4 : Hid (Sl w4 ov r) := HO3.out.below b4
  have C := rclosure_t u (.slice ao n cap) LN w4 hu (HV.out.below HB4.out) (by rw [HLN.out]; omega)
  clear hu b4 HB3 HG3 HO3
  go_wp2_with fail
  refine C.mono ?_
  rintro e w5 ⟨rv, r2, rfl, hs2, hr2, b5⟩
  clear C
  obtain rfl : r = r2 := HR.out.eq hr2 (fun x _ => Iff.rfl)
  have HB5 : Hid (Below w.heap.size w w5) := HB4.out.trans (b5.mono HB4.out.size)
  have HG5 : Hid (Sl w5 gv LN) := HG4.out.below b5
  have C := rng.equal_s ov rv r r w5 (HO4.out.below b5) hs2 (by have := can_len0 HR.out.1; omega) rfl
  clear hs2 hr2 b5 HB4 HG4 HO4
  go_wp2_with fail
  refine C.mono ?_
  rintro e w6 ⟨rfl, b6⟩
  clear C
  have HB6 : Hid (Below w.heap.size w w6) := HB5.out.trans (b6.mono HB5.out.size)
  have C := rng.equal_s gv (.slice ao n cap) LN LN w6 (HG5.out.below b6) (HV.out.below HB6.out) (by rw [HLN.out]; omega) rfl
  clear b6 HB5 HG5
  go_wp2_with fail
  refine C.mono ?_
  rintro e w7 ⟨rfl, b7⟩
  clear C
  have HB7 : Hid (Below w.heap.size w w7) := HB6.out.trans (b7.mono HB6.out.size)
  have C := awake_any w7 (HE.out.below HB7.out)
  clear b7 HB6
  go_wp2_with fail
  refine C.mono ?_
  rintro e w8 ⟨rfl, b8⟩
  have R : Hid (Below w.heap.size w w8) := HB7.out.trans (b8.mono HB7.out.size)
  clear C b8
  go_wp2
  go_ret
  exact ⟨rfl, R.out⟩

theorem minus_none {a c r : List R} (h : IsClo c a) (hr : IsSet r (fun x => has a x && !has c x)) : r = [] := by
  refine hr.eq (g := fun _ => false) (s := []) ⟨trivial, fun x _ => rng.has_nil x⟩ (fun x _ => ?_)
  cases e : has a x
  · rfl
  · rw [h.all e]; rfl
set_option maxHeartbeats 4000000 in
set_option maxRecDepth 1000000 in
theorem twice_walk (v : Value) (l : List R) (w : World) (h : rng.Arg w v l) (E : Env w) : Calls Tryz.prog 5 #[v] w fun e w' => e = .returned (.bool true) ∧ Below w.heap.size w w' := by
  have HE : Hid (Env w) := E
  have HA : Hid (rng.Arg w v l) := h
  obtain ⟨ao, cap, rfl, hcells, hnil, hcap, hmax⟩ := h
  obtain ⟨n, hn⟩ : ∃ n, min l.length 30 = n := ⟨_, rfl⟩
  have hnl : n ≤ l.length := by omega
  have hn30 : n ≤ 30 := by omega
  have HV : Hid (Sl w (.slice ao n cap) (l.take n)) := arg_take HA.out n hnl
  have HLN : Hid ((l.take n).length = n) := by show _ = _; rw [List.length_take]; omega
  have C := load_any w E
  have hmin : min (l.length : Int) 30 = (n : Int) := by omega
  have hmin2 : (if (l.length : Int) < 30 then (l.length : Int) else 30) = (n : Int) := by split <;> omega
  have hmin3 : (if (30 : Int) < (l.length : Int) then 30 else (l.length : Int)) = (n : Int) := by split <;> omega
  have hmin4 : (if (l.length : Int) ≤ 30 then (l.length : Int) else 30) = (n : Int) := by split <;> omega
  have hncap : (n : Int) ≤ (cap : Int) := by omega
  have hn0 : (0 : Int) ≤ (n : Int) := by omega
  generalize hLN : l.take n = LN at *
  generalize l.length = ll at *
  clear hcells hLN HA E hnil hn
  go_enter Tryz.func5, Tryz.ntmps5
  go_wp2_with fail
  refine C.mono ?_
  rintro e w2 ⟨t, rfl, ht, b2⟩
  clear C
  have HB2 : Hid (Below w.heap.size w w2) := b2
  have HT2 : Hid (Tabs w2 t) := ht
  have C := closure_t t (.slice ao n cap) LN w2 ht (HE.out.below b2) (HV.out.below b2) (by rw [HLN.out]; omega)
  clear ht b2
  go_wp2_with fail
  refine C.mono ?_
  rintro e w3 ⟨cv, c, rfl, hc, hr, b3⟩
  clear C
  have HB3 : Hid (Below w.heap.size w w3) := HB2.out.trans (b3.mono HB2.out.size)
  have HC3 : Hid (Sl w3 cv c) := hc
  have HR : Hid (IsClo c LN) := hr
  have HCL : Hid (c.length ≤ 1000000) := by have := can_len0 hr.1; show _ ≤ _; omega
  have C := closure_t t cv c w3 (HT2.out.below b3) (HE.out.below HB3.out) hc HCL.out
  clear b3 HB2 hc hr HT2
  obtain ⟨ca, cc, rfl, _⟩ := HC3.out
  generalize c.length = cn at *
  go_wp2_with fail
  refine C.mono ?_
  rintro e w4 ⟨dv, d, rfl, hd, hr2, b4⟩
  clear C
  obtain rfl : d = c := HR.out.twice hr2
  have HB4 : Hid (Below w.heap.size w w4) := HB3.out.trans (b4.mono HB3.out.size)
  have HC4 : Hid (Sl w4 (.slice ca cn cc) d) := HC3.out.below b4
  have C := rng.equal_s dv (.slice ca cn cc) d d w4 hd HC4.out (by have := can_len0 HR.out.1; omega) rfl
  clear hd hr2 b4 HB3 HC3
  go_wp2_with fail
  refine C.mono ?_
  rintro e w5 ⟨rfl, b5⟩
  clear C
  have HB5 : Hid (Below w.heap.size w w5) := HB4.out.trans (b5.mono HB4.out.size)
  have HC5 : Hid (Sl w5 (.slice ca cn cc) d) := HC4.out.below b5
  have C := rng.rminus_s (.slice ao n cap) (.slice ca cn cc) LN d w5 (HV.out.below HB5.out) HC5.out (by rw [HLN.out]; omega) (by have := can_len0 HR.out.1; omega)
  clear b5 HB4 HC4
  go_wp2_with fail
  refine C.mono ?_
  rintro e w6 ⟨mv, m, rfl, hm, hms, b6⟩
  clear C
  obtain rfl : m = [] := minus_none HR.out hms
  obtain ⟨ma, mc, rfl, _⟩ := hm
  have HB6 : Hid (Below w.heap.size w w6) := HB5.out.trans (b6.mono HB5.out.size)
  have C := rng.rcan_s (.slice ca cn cc) d w6 (HC5.out.below b6) (by have := can_len0 HR.out.1; omega)
  rw [(rng.canB_iff 0 d).2 HR.out.1] at C
  have e0 : ([] : List R).length = 0 := rfl
  rw [e0]
  clear b6 HB5 HC5 hms e0
  go_wp2_with fail
  refine C.mono ?_
  rintro e w7 ⟨rfl, b7⟩
  clear C
  have HB7 : Hid (Below w.heap.size w w7) := HB6.out.trans (b7.mono HB6.out.size)
  have C := awake_any w7 (HE.out.below HB7.out)
  clear b7 HB6
  go_wp2_with fail
  refine C.mono ?_
  rintro e w8 ⟨rfl, b8⟩
  have R : Hid (Below w.heap.size w w8) := HB7.out.trans (b8.mono HB7.out.size)
  clear C b8
  go_wp2
  go_ret
  exact ⟨rfl, R.out⟩
end Go.Proofs.YtochajmhljipbaaGreatDoor.fld
end

section
/- rubricatorplain.Wide; FoldSettles, FoldMeets, FoldNobody: the walks. -/
set_option linter.unusedVariables false
set_option linter.unusedSimpArgs false
namespace Go.Proofs.YtochajmhljipbaaGreatDoor.fld
open Go.RowKit Go.Maps
open Go.Proofs.YtochajmhljipbaaGreatDoor.lin Go.Proofs.YtochajmhljipbaaGreatDoor.prp
open Go.Proofs.YtochajmhljipbaaGreatDoor.rng (R has IsSet Sl code CanF tot)

theorem full_code : tpts.all (fun r => (foldF true r).all code) = true := by decide +kernel
theorem full_ok {r : Int} (h : okI r) : ∀ x ∈ foldF true r, okI x := by
  cases t : toldB r
  · rw [untold true t]
    intro x hx
    rw [List.mem_singleton.1 hx]
    exact h
  · intro x hx
    exact code_ok (List.all_eq_true.1 (List.all_eq_true.1 full_code r ((told_iff r).1 t)) x hx)
theorem sim_ok {r : Int} (h : okI r) : okI (sim r) := by
  cases t : toldB r
  · rw [sim_untold t]; exact h
  · exact code_ok (told_code t).2
theorem iv_at {w : World} {v : Value} {l : List Int} (h : IV w v l) : ∃ a c, v = .slice a l.length c ∧ ∀ k, k < l.length → ∃ x b o, a = some ⟨b, o, none⟩ ∧ w.cell? ⟨b, o + k, none⟩ = some (.int .i64 x) ∧ l[k]? = some x := by
  obtain ⟨a, c, rfl, hv⟩ := h
  refine ⟨a, c, rfl, fun k hk => ?_⟩
  obtain ⟨b, o, e, hc⟩ := hv (by omega)
  refine ⟨l[k], b, o, e, ?_, List.getElem?_eq_getElem hk⟩
  rw [hc k hk, List.getD_eq_getElem?_getD, List.getElem?_eq_getElem hk]
  rfl
theorem iv_lit (w : World) (x : Int) : IV (w.alloc (.cells #[.int .i64 x] 3)) (.slice (some ⟨w.heap.size, 0, none⟩) 1 1) [x] :=
  IOwn.iv (base := 0) (World.ownsRow_lit (base := 0) (e := 3) (size := 1) w #[.int .i64 x] 1 (Nat.zero_le _) (by unfold maxLen; omega) rfl)
set_option maxHeartbeats 4000000 in
set_option maxRecDepth 1000000 in
theorem settles_walk (r : Int) (w : World) (hr : okI r) (E : Env w) : Calls Tryz.prog 6 #[.int .i64 r] w fun e w' => e = .returned (.bool true) ∧ Below w.heap.size w w' := by
  have C := load_any w E
  clear E
  go_enter Tryz.func6, Tryz.ntmps6
  go_wp2_with fail
  refine C.mono ?_
  rintro e w1 ⟨t, rfl, ht, b1⟩
  clear C
  have HT1 : Hid (Tabs w1 t) := ht
  have C := simple_t t r w1 ht hr
  obtain ⟨S, hS⟩ : ∃ S, sim r = S := ⟨_, rfl⟩
  have HSO : Hid (okI S) := by rw [← hS]; exact sim_ok hr
  have HSS : Hid (sim S = S) := by rw [← hS]; exact sim_sim r
  have HSR : Hid ((sim r == sim S) = true) := by unfold Hid; rw [HSS.out, hS]; exact beq_self_eq_true _
  rw [hS] at C
  clear ht hS
  go_wp2_with fail
  refine C.mono ?_
  rintro e w2 ⟨rfl, b2⟩
  clear C
  have HB2 : Hid (Below w.heap.size w w2) := b1.trans (b2.mono b1.size)
  have HT2 : Hid (Tabs w2 t) := HT1.out.below b2
  have C := full_t t r w2 HT2.out hr
  clear b1 b2 HT1
  have HFS : Hid (∀ x ∈ foldF true r, foldF true x = [x]) := (full_settles r).1
  have hfp : 0 < (foldF true r).length := (full_settles r).2
  have hfl : (foldF true r).length ≤ 4 := foldF_len true r
  have HFO : Hid (∀ x ∈ foldF true r, okI x) := full_ok hr
  have HRO : Hid (okI r) := hr
  generalize foldF true r = F at *
  clear hr
  go_wp2_with fail
  refine C.mono ?_
  rintro e w3 ⟨fv, rfl, hf, b3⟩
  clear C
  obtain ⟨fa, fc, rfl, hat⟩ := iv_at hf.iv
  have HAT : Hid (∀ k, k < F.length → ∃ x b o, fa = some ⟨b, o, none⟩ ∧ w3.cell? ⟨b, o + k, none⟩ = some (.int .i64 x) ∧ F[k]? = some x) := hat
  have HB3 : Hid (Below w.heap.size w w3) := HB2.out.trans (b3.mono HB2.out.size)
  have HT3 : Hid (Tabs w3 t) := HT2.out.below b3
  clear b3 HT2 HB2 hf hat
  generalize F.length = n at *
  have hn0 : (0 : Int) < (n : Int) := by omega
  go_wp2
  go_loopw [17] (fun i wr => ∃ k : Nat, k ≤ n ∧ i = .int .i64 k ∧ Hid (Below w3.heap.size w3 wr)) (fun i _ => n - (RowKit.intOf i).toNat)
  case atStart => exact ⟨0, Nat.zero_le _, rfl, Below.refl _ _⟩
  case round =>
    obtain ⟨k, hk, rfl, HB⟩ := hrel
    by_cases hlt : k < n
    · have hlt' : (k : Int) < (n : Int) := by omega
      obtain ⟨x, b, o, rfl, hc0, hx⟩ := HAT.out k hlt
      have hc := cell_below HB.out hc0
      have C := full_t t x wr (HT3.out.below HB.out) (HFO.out x (List.mem_of_getElem? hx))
      rw [HFS.out x (List.mem_of_getElem? hx)] at C
      clear hc0 hx
      go_wp2_with fail
      refine C.mono ?_
      rintro e x1 ⟨v1, rfl, h1, bx1⟩
      clear C
      have B2 : Below x1.heap.size x1 (x1.alloc (.cells #[.int .i64 x] 3)) := (Below.refl _ x1).alloc (Nat.le_refl _) _
      have C := iequal_any v1 (.slice (some ⟨x1.heap.size, 0, none⟩) 1 1) [x] _ (h1.iv.below B2) (iv_lit x1 x) (by simp)
      have HB2 : Hid (Below w3.heap.size w3 (x1.alloc (.cells #[.int .i64 x] 3))) := (HB.out.trans (bx1.mono HB.out.size)).trans (B2.mono (HB.out.trans (bx1.mono HB.out.size)).size)
      clear B2 bx1 HB h1
      go_wp2_with fail
      refine C.mono ?_
      rintro e x2 ⟨rfl, bx2⟩
      clear C
      have HB3' : Hid (Below w3.heap.size w3 x2) := HB2.out.trans (bx2.mono HB2.out.size)
      clear bx2 HB2
      go_wp2
      go_roundw
      case rel => exact ⟨k + 1, by omega, by go_num, HB3'⟩
      case measure => simp [RowKit.intOf]; omega
    · have hge : ¬ (k : Int) < (n : Int) := by omega
      have C := simple_t t S wr (HT3.out.below HB.out) HSO.out
      rw [HSS.out] at C
      have hb1 : (S == S) = true := beq_self_eq_true _
      go_wp2_with fail
      refine C.mono ?_
      rintro e x1 ⟨rfl, bx1⟩
      clear C
      have HBx : Hid (Below w3.heap.size w3 x1) := HB.out.trans (bx1.mono HB.out.size)
      have C := same_t t r S x1 (HT3.out.below HBx.out) HRO.out HSO.out
      rw [HSR.out] at C
      clear HB bx1
      go_wp2_with fail
      refine C.mono ?_
      rintro e x2 ⟨rfl, bx2⟩
      clear C
      have HBy : Hid (Below w3.heap.size w3 x2) := HBx.out.trans (bx2.mono HBx.out.size)
      clear HBx bx2
      go_wp2
      go_ret
      exact ⟨rfl, HB3.out.trans (HBy.out.mono HB3.out.size)⟩

theorem settles_walk2 (r : Int) (w : World) (h1 : -9223372036854775808 ≤ r) (h2 : r ≤ 9223372036854775807) (E : Env w) : Calls Tryz.prog 6 #[.int .i64 r] w fun e w' => e = .returned (.bool true) ∧ Below w.heap.size w w' := settles_walk r w ⟨h1, h2⟩ E
theorem tot_take {l : List R} {k : Nat} {p : R} (h : l[k]? = some p) : tot (l.take (k + 1)) = tot (l.take k) + (p.2 - p.1 + 1) := by
  rw [take_snoc h, rng.tot_snoc]
theorem tot_mono {l : List R} (h : CanF 0 l) (k : Nat) : 0 ≤ tot (l.take k) ∧ tot (l.take k) ≤ tot l := by
  have h1 := len_tot (can_take k h)
  have h2 : tot l = tot (l.take k) + tot (l.drop k) := by
    unfold rng.tot
    rw [← List.sum_append, ← List.map_append, List.take_append_drop]
  have h3 : 0 ≤ tot (l.drop k) := by
    have : ∀ m : List R, (∀ p ∈ m, p.1 ≤ p.2) → 0 ≤ tot m := by
      intro m
      induction m with
      | nil => intro _; exact Int.le_refl _
      | cons q m ih =>
        intro hm
        have := ih (fun p hp => hm p (by simp [hp]))
        have := hm q (by simp)
        rw [rng.tot_cons]
        omega
    exact this _ (fun p hp => (can_in (Int.le_refl 0) h p (List.mem_of_mem_drop hp)).2.1)
  omega
set_option maxHeartbeats 4000000 in
set_option maxRecDepth 1000000 in
theorem wide_any (v : Value) (c : List R) (w : World) (hs : Sl w v c) (hc : CanF 0 c) (h1 : tot c ≤ 20) (h2 : c.length ≤ 20) :
    Calls Tryz.prog 26 #[v, .int .i64 20] w fun e w' => e = .returned (.bool false) ∧ Below w.heap.size w w' := by
  obtain ⟨ao, cap, rfl, hv, _⟩ := hs
  have HC : Hid (∀ k, k < c.length → ∃ (lo hi : Int) (b o : Nat), ao = some ⟨b, o, none⟩ ∧ w.cell? ⟨b, o + k * 2, none⟩ = some (.int .i64 lo) ∧ w.cell? ⟨b, o + k * 2 + 1, none⟩ = some (.int .i64 hi) ∧ 0 ≤ lo ∧ lo ≤ hi ∧ hi ≤ 1114111 ∧ tot (c.take (k + 1)) = tot (c.take k) + (hi - lo + 1) ∧ 0 ≤ tot (c.take k) ∧ tot (c.take (k + 1)) ≤ 20) := fun k hk => by
    obtain ⟨b, o, e, hcell⟩ := hv.some (by omega)
    have hkk := List.getElem?_eq_getElem hk
    obtain ⟨c1, c2⟩ := hcell k _ hkk
    obtain ⟨r1, r2, r3⟩ := can_in (Int.le_refl 0) hc _ (List.getElem_mem hk)
    have := tot_mono hc k
    have := tot_mono hc (k + 1)
    exact ⟨_, _, b, o, e, c1, c2, r1, r2, r3, tot_take hkk, by omega, by omega⟩
  clear hv hc h1
  generalize c.length = n at *
  have hn40 : ¬ (40 : Int) < (n : Int) := by omega
  go_enter Tryz.func26, Tryz.ntmps26
  go_wp2
  go_loopw [5, 15] (fun m i wr => ∃ k : Nat, k ≤ n ∧ i = .int .i64 k ∧ m = .int .i64 (tot (c.take k)) ∧ Hid (Below w.heap.size w wr)) (fun _ i _ => n - (RowKit.intOf i).toNat)
  case atStart => exact ⟨0, Nat.zero_le _, rfl, rfl, Below.refl _ _⟩
  case round =>
    obtain ⟨k, hk, rfl, rfl, HB⟩ := hrel
    by_cases hlt : k < n
    · have hlt' : (k : Int) < (n : Int) := by omega
      obtain ⟨lo, hi, b, o, rfl, c0, c1, r1, r2, r3, ht, t1, t2⟩ := HC.out k hlt
      have d0 := cell_below HB.out c0
      have d1 := cell_below HB.out c1
      have hsz := HB.out.size
      have HTT : Hid (tot (c.take (k + 1)) = tot (c.take k) + (hi - lo + 1)) := ht
      rw [ht] at t2
      have HB2 : Hid (∀ q x, Below w.heap.size w ((wr.alloc x).drewN q)) := fun q x => rng.below_drewN (HB.out.alloc hsz x) q
      clear c0 c1 ht
      generalize tot (c.take k) = m at *
      have mx : max lo 0 = lo := by omega
      have mx2 : (if lo < 0 then 0 else lo) = lo := by split <;> omega
      have mx3 : (if 0 < lo then lo else 0) = lo := by split <;> omega
      have mn : min hi 1114111 = hi := by omega
      have mn2 : (if hi < 1114111 then hi else 1114111) = hi := by split <;> omega
      have mn3 : (if 1114111 < hi then 1114111 else hi) = hi := by split <;> omega
      have w1 : IntKind.i64.wrap (hi - lo) = hi - lo := by rw [IntKind.wrap_i64]; omega
      have w2 : IntKind.i64.wrap (hi - lo + 1) = hi - lo + 1 := by rw [IntKind.wrap_i64]; omega
      have w3 : IntKind.i64.wrap (m + (hi - lo + 1)) = m + (hi - lo + 1) := by rw [IntKind.wrap_i64]; omega
      have h20 : ¬ 20 < m + (hi - lo + 1) := by omega
      go_wp2
      go_quiet (fail)
      go_wp2
      go_roundw
      case rel => exact ⟨k + 1, by omega, by go_num, by rw [HTT.out], HB2.out _ _⟩
      case measure => simp [RowKit.intOf]; omega
    · have hge : ¬ (k : Int) < (n : Int) := by omega
      go_wp2
      go_ret
      exact ⟨rfl, HB.out⟩

theorem mod_code (x : Int) : ∃ y : Int, wrap64 ((IntKind.u64.wrap x).tmod 1114112) = y ∧ code y = true := by
  have hu : 0 ≤ IntKind.u64.wrap x := by simp [IntKind.wrap, IntKind.signed, IntKind.bits]; omega
  rw [Int.tmod_eq_emod_of_nonneg hu]
  refine ⟨IntKind.u64.wrap x % 1114112, ?_, by rw [rng.code_iff]; omega⟩
  have h1 : 0 ≤ IntKind.u64.wrap x % 1114112 := by omega
  have h2 : IntKind.u64.wrap x % 1114112 < 1114112 := by omega
  generalize IntKind.u64.wrap x % 1114112 = y at *
  unfold wrap64
  omega
set_option maxHeartbeats 4000000 in
set_option maxRecDepth 1000000 in
theorem meets_walk (a b : Int) (w : World) (E : Env w) : Calls Tryz.prog 7 #[.int .i64 a, .int .i64 b] w fun e w' => e = .returned (.bool true) ∧ Below w.heap.size w w' := by
  have HE : Hid (Env w) := E
  have C := load_any w E
  obtain ⟨X, hX, cX⟩ := mod_code a
  obtain ⟨Y, hY, cY⟩ := mod_code b
  have HX : Hid (code X = true) := cX
  have HY : Hid (code Y = true) := cY
  clear E cX cY
  go_enter Tryz.func7, Tryz.ntmps7
  go_wp2_with fail
  refine C.mono ?_
  rintro e w1 ⟨t, rfl, ht, b1⟩
  clear C
  rw [hX, hY]
  clear hX hY
  have B1 : Below w1.heap.size w1 (w1.alloc (.cells #[.int .i64 X, .int .i64 X] 39)) := (Below.refl _ w1).alloc (Nat.le_refl _) _
  have HB1 : Hid (Below w.heap.size w (w1.alloc (.cells #[.int .i64 X, .int .i64 X] 39))) := b1.trans (B1.mono b1.size)
  have HT1 : Hid (Tabs (w1.alloc (.cells #[.int .i64 X, .int .i64 X] 39)) t) := ht.below B1
  have C := closure_t t (.slice (some ⟨w1.heap.size, 0, none⟩) 1 1) [(X, X)] (w1.alloc (.cells #[.int .i64 X, .int .i64 X] 39)) HT1.out (HE.out.below HB1.out) ⟨_, 1, rfl, rng.rv_one w1 X X, fun e => by cases e⟩ (by simp)
  clear b1 B1 ht
  go_wp2_with fail
  refine C.mono ?_
  rintro e w2 ⟨cv, c, rfl, hs, hc, b2⟩
  clear C
  have HB2 : Hid (Below w.heap.size w w2) := HB1.out.trans (b2.mono HB1.out.size)
  have HT2 : Hid (Tabs w2 t) := HT1.out.below b2
  have HS2 : Hid (Sl w2 cv c) := hs
  have HCL : Hid (IsClo c [(X, X)]) := hc
  obtain ⟨ca, cc, rfl, _⟩ := id hs
  clear hs hc b2 HB1 HT1
  obtain ⟨cn, hcn⟩ : ∃ n, c.length = n := ⟨_, rfl⟩
  have HCN : Hid (c.length = cn) := hcn
  rw [hcn] at HS2 ⊢
  clear hcn
  obtain ⟨Q, hQ⟩ : ∃ Q, (sim X == sim Y) = Q := ⟨_, rfl⟩
  have HQ : Hid ((sim X == sim Y) = Q) := hQ
  have HQ2 : Hid ((sim Y == sim X) = Q) := by unfold Hid; rw [← hQ, Bool.eq_iff_iff, beq_iff_eq, beq_iff_eq]; exact eq_comm
  clear hQ
  have hQQ : (Q == Q) = true := beq_self_eq_true _
  have C := same_t t X Y w2 HT2.out (code_ok HX.out) (code_ok HY.out)
  rw [HQ.out] at C
  go_wp2_with fail
  refine C.mono ?_
  rintro e w3 ⟨rfl, b3⟩
  clear C
  have HB3 : Hid (Below w.heap.size w w3) := HB2.out.trans (b3.mono HB2.out.size)
  have HT3 : Hid (Tabs w3 t) := HT2.out.below b3
  have HS3 : Hid (Sl w3 (.slice ca cn cc) c) := HS2.out.below b3
  have C := rng.rhas_s (.slice ca cn cc) c Y w3 HS3.out (by have := can_len0 HCL.out.1; omega)
  rw [clo_one HCL.out HX.out HY.out, HQ.out] at C
  clear b3 HB2 HT2 HS2
  go_wp2_with fail
  refine C.mono ?_
  rintro e w4 ⟨rfl, b4⟩
  clear C
  have HB4 : Hid (Below w.heap.size w w4) := HB3.out.trans (b4.mono HB3.out.size)
  have HT4 : Hid (Tabs w4 t) := HT3.out.below b4
  have HS4 : Hid (Sl w4 (.slice ca cn cc) c) := HS3.out.below b4
  have C := same_t t X Y w4 HT4.out (code_ok HX.out) (code_ok HY.out)
  rw [HQ.out] at C
  clear b4 HB3 HT3 HS3
  go_wp2_with fail
  refine C.mono ?_
  rintro e w5 ⟨rfl, b5⟩
  clear C
  have HB5 : Hid (Below w.heap.size w w5) := HB4.out.trans (b5.mono HB4.out.size)
  have HT5 : Hid (Tabs w5 t) := HT4.out.below b5
  have HS5 : Hid (Sl w5 (.slice ca cn cc) c) := HS4.out.below b5
  have C := same_t t Y X w5 HT5.out (code_ok HY.out) (code_ok HX.out)
  rw [HQ2.out] at C
  clear b5 HB4 HT4 HS4
  go_wp2_with fail
  refine C.mono ?_
  rintro e w6 ⟨rfl, b6⟩
  clear C
  have HB6 : Hid (Below w.heap.size w w6) := HB5.out.trans (b6.mono HB5.out.size)
  have HS6 : Hid (Sl w6 (.slice ca cn cc) c) := HS5.out.below b6
  have C := wide_any (.slice ca cn cc) c w6 HS6.out HCL.out.1 (clo_small HCL.out).1 (clo_small HCL.out).2
  clear b6 HB5 HT5 HS5
  go_wp2_with fail
  refine C.mono ?_
  rintro e w7 ⟨rfl, b7⟩
  clear C
  have HB7 : Hid (Below w.heap.size w w7) := HB6.out.trans (b7.mono HB6.out.size)
  have C := awake_any w7 (HE.out.below HB7.out)
  clear b7 HB6 HS6
  go_wp2_with fail
  refine C.mono ?_
  rintro e w8 ⟨rfl, b8⟩
  have R : Hid (Below w.heap.size w w8) := HB7.out.trans (b8.mono HB7.out.size)
  clear C b8
  go_wp2
  go_ret
  exact ⟨rfl, R.out⟩

set_option maxRecDepth 1000000 in
theorem closure_no (v u : Value) (w : World) (h : Unmade w v) : Calls Tryz.prog 21 #[v, u] w fun e w' => e = .returned (.slice none 0 0) ∧ w' = w := by
  have C := fmade_no v w h
  clear h
  go_enter Tryz.func21, Tryz.ntmps21
  go_wp2_with fail
  refine C.mono ?_
  rintro e w1 ⟨rfl, hw⟩
  rw [hw]
  clear C hw
  go_wp2
  go_ret
  exact ⟨rfl, rfl⟩
set_option maxHeartbeats 4000000 in
set_option maxRecDepth 1000000 in
theorem nobody_walk (a b : Int) (w : World) (E : Env w) : Calls Tryz.prog 8 #[.int .i64 a, .int .i64 b] w fun e w' => e = .returned (.bool true) ∧ Below w.heap.size w w' := by
  have HE : Hid (Env w) := E
  clear E
  go_enter Tryz.func8, Tryz.ntmps8
  go_wp2
  have HB : Hid (Below w.heap.size w ((w.alloc (.cells #[.pointer none, .slice none 0 0, .pointer none, .slice none 0 0, .pointer none, .slice none 0 0, .pointer none, .slice none 0 0, .pointer none, .slice none 0 0, .map none, .map none, .map none, .map none] 59)).alloc (.cells #[.pointer none, .pointer (some ⟨w.heap.size, 0, none⟩)] 23))) := ((Below.refl _ w).alloc (Nat.le_refl _) _).alloc (by simp) _
  have nb0 : ((w.alloc (.cells #[.pointer none, .slice none 0 0, .pointer none, .slice none 0 0, .pointer none, .slice none 0 0, .pointer none, .slice none 0 0, .pointer none, .slice none 0 0, .map none, .map none, .map none, .map none] 59)).alloc (.cells #[.pointer none, .pointer (some ⟨w.heap.size, 0, none⟩)] 23)).heap[w.heap.size]? = some (.cells #[.pointer none, .slice none 0 0, .pointer none, .slice none 0 0, .pointer none, .slice none 0 0, .pointer none, .slice none 0 0, .pointer none, .slice none 0 0, .map none, .map none, .map none, .map none] 59 (0, 0)) := by
    rw [Below.heap_alloc _ _ _ (by simp)]; exact World.alloc_heap_new _ _
  have nb1 : ((w.alloc (.cells #[.pointer none, .slice none 0 0, .pointer none, .slice none 0 0, .pointer none, .slice none 0 0, .pointer none, .slice none 0 0, .pointer none, .slice none 0 0, .map none, .map none, .map none, .map none] 59)).alloc (.cells #[.pointer none, .pointer (some ⟨w.heap.size, 0, none⟩)] 23)).heap[w.heap.size + 1]? = some (.cells #[.pointer none, .pointer (some ⟨w.heap.size, 0, none⟩)] 23 (0, 0)) := heap_alloc2_new _ _ _
  generalize (w.alloc (.cells #[.pointer none, .slice none 0 0, .pointer none, .slice none 0 0, .pointer none, .slice none 0 0, .pointer none, .slice none 0 0, .pointer none, .slice none 0 0, .map none, .map none, .map none, .map none] 59)).alloc (.cells #[.pointer none, .pointer (some ⟨w.heap.size, 0, none⟩)] 23) = W at *
  have d0 := cell_of_row W (w.heap.size + 1) 0 _ _ _ nb1
  have d1 := cell_of_row W (w.heap.size + 1) 1 _ _ _ nb1
  have d2 := cell_of_row W w.heap.size 0 _ _ _ nb0
  simp at d0 d1 d2
  have U1 : Hid (Unmade W (.pointer none)) := .inl rfl
  have U2 : Hid (Unmade W (.pointer (some ⟨w.heap.size, 0, none⟩))) := .inr ⟨_, rfl, d2⟩
  clear nb0 nb1 d2
  refine wp_loop_rounds 3 ?_
  rw [rounds_succ]
  have C := simple_no (.pointer none) a W U1.out
  go_wp2_with fail
  refine C.mono ?_
  rintro e w1 ⟨rfl, hw⟩
  rw [hw]
  clear C hw w1
  have C := full_no (.pointer none) a W U1.out
  go_wp2_with fail
  refine C.mono ?_
  rintro e w1 ⟨rfl, hw⟩
  rw [hw]
  clear C hw w1
  have C := same_no (.pointer none) a b W U1.out
  go_wp2_with fail
  refine C.mono ?_
  rintro e w1 ⟨rfl, hw⟩
  rw [hw]
  clear C hw w1
  have BA1 : Below W.heap.size W (W.alloc (.cells #[.int .i64 a, .int .i64 b] 39)) := (Below.refl _ W).alloc (Nat.le_refl _) _
  have C := closure_no (.pointer none) (.slice (some ⟨W.heap.size, 0, none⟩) 1 1) _ (U1.out.below BA1)
  have HB2 : Hid (Below w.heap.size w (W.alloc (.cells #[.int .i64 a, .int .i64 b] 39))) := HB.out.trans (BA1.mono HB.out.size)
  have e0 := cell_below BA1 d0
  have e1 := cell_below BA1 d1
  have V2 : Hid (Unmade (W.alloc (.cells #[.int .i64 a, .int .i64 b] 39)) (.pointer (some ⟨w.heap.size, 0, none⟩))) := U2.out.below BA1
  clear BA1
  go_wp2_with fail
  refine C.mono ?_
  rintro e w1 ⟨rfl, hw⟩
  rw [hw]
  clear C hw w1 d0 d1 U1 U2 HB
  generalize W.alloc (.cells #[.int .i64 a, .int .i64 b] 39) = W2 at *
  go_wp2
  rw [rounds_succ]
  have C := simple_no (.pointer (some ⟨w.heap.size, 0, none⟩)) a W2 V2.out
  go_wp2_with fail
  refine C.mono ?_
  rintro e w1 ⟨rfl, hw⟩
  rw [hw]
  clear C hw w1
  have C := full_no (.pointer (some ⟨w.heap.size, 0, none⟩)) a W2 V2.out
  go_wp2_with fail
  refine C.mono ?_
  rintro e w1 ⟨rfl, hw⟩
  rw [hw]
  clear C hw w1
  have C := same_no (.pointer (some ⟨w.heap.size, 0, none⟩)) a b W2 V2.out
  go_wp2_with fail
  refine C.mono ?_
  rintro e w1 ⟨rfl, hw⟩
  rw [hw]
  clear C hw w1
  have BA2 : Below W2.heap.size W2 (W2.alloc (.cells #[.int .i64 a, .int .i64 b] 39)) := (Below.refl _ W2).alloc (Nat.le_refl _) _
  have C := closure_no (.pointer (some ⟨w.heap.size, 0, none⟩)) (.slice (some ⟨W2.heap.size, 0, none⟩) 1 1) _ (V2.out.below BA2)
  have HB3 : Hid (Below w.heap.size w (W2.alloc (.cells #[.int .i64 a, .int .i64 b] 39))) := HB2.out.trans (BA2.mono HB2.out.size)
  clear BA2
  go_wp2_with fail
  refine C.mono ?_
  rintro e w1 ⟨rfl, hw⟩
  rw [hw]
  clear C hw w1 V2 HB2
  generalize W2.alloc (.cells #[.int .i64 a, .int .i64 b] 39) = W3 at *
  go_wp2
  rw [rounds_succ]
  have C := awake_any W3 (HE.out.below HB3.out)
  go_wp2_with fail
  refine C.mono ?_
  rintro e w1 ⟨rfl, hb⟩
  clear C
  go_wp2
  go_ret
  exact ⟨rfl, HB3.out.trans (hb.mono HB3.out.size)⟩
end Go.Proofs.YtochajmhljipbaaGreatDoor.fld
end
