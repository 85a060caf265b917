/- The statement LinesIdle, walked. -/
import Derived.Test.YtciblkmbkdhdiaaDoorLinClone
import Derived.Test.YtciblkmbkdhdiaaDoorLinIdlePure
set_option linter.unusedVariables false
set_option linter.unusedSimpArgs false
namespace Go.Proofs.YtciblkmbkdhdiaaDoor.lin
open Go.RowKit

/-- append(dst, one record), dst the call's own row, in an operation that may be skipped. -/
theorem append_one {w : World} {ops : Array Oper} {rest : List Oper} {o : Oper} {a : Act} {Q : Exit → Act → World → Prop} (hw : Region.wanted o (yielded ops a.tmps) = true) (s x : Operand)
    (ho : o.op = .call { callee := .builtin .append, args := #[s, x], argTypes := #[22, 22] })
    (base : Nat) (v : Value) (n : Nat) (xs : List Value) (hs : a.eval s = v) (hown : w.ownsRow base 42 3 v n xs)
    (ad : Addr) (news : List Value) (hx : a.eval x = .slice (some ad) 1 1) (hl : news.length = 1 * 3) (hnews : ∀ j u, news[j]? = some u → w.cell? (ad.add j) = some u) (h1 : ∀ u ∈ news, u.oneCell' = true)
    (hn : n ≤ 1099511627776) (hbase : base ≤ w.heap.size)
    (h : ∀ v' w', w'.ownsRow base 42 3 v' (n + 1) (xs ++ news) → w.grownBy w' v.ownBlock → wpList Tryd.prog ops Q rest (a.put o.dst v') w') : wpList Tryd.prog ops Q (o :: rest) a w := by
  obtain ⟨i0, hi, hz0, hy1, hz2⟩ := info_parts infoRec3
  refine wpList_step fun K hK => ?_
  rw [if_pos hw]
  obtain ⟨v', w', hrun, r1, r2, _⟩ := run_append_own (P := Tryd.prog) (w := w) base 22 o.type 42 i0 (.agg #[.int .i64 0, .int .i64 0, .slice none 0 0]) 3 40 Tryd.underlying22 hi hz0 hy1 hz2 rfl (by decide) v n xs hown ad 1 1 news hl hnews h1 (by unfold maxLen; omega) (by omega) hbase
  unfold Oper.wp
  simp [execOp, ho, resolve, invoke, builtin, hs, hx, hrun, Result.andThen]
  exact hK _ _ (h v' w' r1 r2)

set_option maxHeartbeats 2000000 in
set_option maxRecDepth 100000 in
theorem linesIdle_any (v : Value) (rs : List RecT) (t : ByteArray) (w : World) (m : Int) (hv : InRecs w v rs) (hn : rs.length ≤ 1048576) (hz : ∀ r ∈ rs, r.2.2.length ≤ 1048576 ∧ ∀ f ∈ r.2.2, f.size ≤ 1048576) (hM : (rs.map recMax).sum ≤ 36700160) (ht : t.size ≤ 1048576)
    (hd : w.cell? ⟨6, 15, none⟩ = some (.int .u8 4)) (hlt : 6 < w.heap.size)
    (hm : w.cell? ⟨2, 0, none⟩ = some (.int .i64 m)) (hm2 : 2 < w.heap.size) :
    Calls Tryd.prog 8 #[v, .string t] w fun e w' => e = .returned (.bool true) ∧ Below w.heap.size w w' := by
  have mx : ∀ W, Below w.heap.size w W → W.cell? ⟨2, 0, none⟩ = some (.int .i64 m) ∧ 2 < W.heap.size := fun W h => ⟨(h.cell (p := ⟨2, 0, none⟩) hm2).trans hm, by have := h.size; omega⟩
  have HM : Hid (∀ W, Below w.heap.size w W → Calls Tryd.prog 17 #[] W fun e w' => e = .returned (.bool true) ∧ Below W.heap.size W w') := fun W h => awake_any W m (mx W h).1 (mx W h).2
  have HMX : Hid (∀ W, Below w.heap.size w W → W.cell? ⟨2, 0, none⟩ = some (.int .i64 m) ∧ 2 < W.heap.size) := mx
  have HP : Hid (Calls Tryd.prog 20 #[v] w fun e w' => e = .returned (.tuple #[.string (BA (printV rs).1), .int .i64 (printV rs).2]) ∧ Below w.heap.size w w') := print_any v rs w hv hn hz (by omega) hd hlt
  have HV : Hid (InRecs w v rs) := hv
  have HZ : Hid (∀ r ∈ rs, r.2.2.length ≤ 1048576 ∧ ∀ f ∈ r.2.2, f.size ≤ 1048576) := hz
  have HS : Hid ((rs.map recMax).sum ≤ 36700160) := hM
  clear hd hm hz hv mx hM
  go_enter Tryd.func8, Tryd.ntmps8
  go_wp2
  go_loopw [12] (fun i wz => ∃ p : Nat, p ≤ t.size ∧ i = .int .i64 p ∧ Hid (∀ q, q < p → q < t.size → ¬ at8 t q = 10) ∧ wz = w) (fun i _ => t.size - (RowKit.intOf i).toNat)
  case atStart => exact ⟨0, Nat.zero_le _, rfl, fun q h => absurd h (Nat.not_lt_zero _), rfl⟩
  case round =>
    obtain ⟨p, hp, rfl, HNB, rfl⟩ := hrel
    by_cases hpl : p < t.size
    · have hpl' : (p : Int) < (t.size : Int) := by omega
      have he := at8_eq t p hpl
      have HNB2 : Hid (¬ ((t[p]'hpl).toNat : Int) = 10 → ∀ q, q < p + 1 → q < t.size → ¬ at8 t q = 10) := by
        intro h q h1 h2
        rcases Nat.lt_or_ge q p with h3 | h3
        · exact HNB.out q h3 h2
        · obtain rfl : q = p := by omega
          rw [he]; exact h
      clear he HNB
      generalize hr : (t[p]'hpl).toNat = y at *
      by_cases y1 : y = 10
      · have s1 : ((y : Int) == 10) = true := by rw [beq_iff_eq]; omega
        clear HNB2 y1
        go_wp2_with fail
        refine (HM.out _ (Below.refl _ _)).mono ?_
        rintro e w4 ⟨rfl, b4⟩
        go_wp2
        go_ret
        exact ⟨rfl, b4⟩
      · have s1 : ((y : Int) == 10) = false := by rw [beq_eq_false_iff_ne]; omega
        have HNB3 : Hid (∀ q, q < p + 1 → q < t.size → ¬ at8 t q = 10) := HNB2.out (by omega)
        clear HNB2 y1
        go_wp2
        go_roundw
        case rel => exact ⟨p + 1, by omega, by go_num, HNB3, trivial⟩
        case measure => simp [RowKit.intOf]; omega
    · have hpl' : ¬ (p : Int) < (t.size : Int) := by omega
      have h10 : 10 ∉ t.data.toList := no_ten t (fun q hq => HNB.out q (by omega) hq)
      have H10 : Hid (10 ∉ t.data.toList) := h10
      clear HNB h10
      go_wp2_with fail
      refine HP.out.mono ?_
      rintro e w2 ⟨rfl, b2⟩
      clear HP
      cases hall : rs.all (fun r => printB r.1 r.2.1 r.2.2)
      · rw [printV_bad hall]
        clear hall H10 HMX HV HZ HS
        go_wp2_with fail
        refine (HM.out _ b2).mono ?_
        rintro e w4 ⟨rfl, b4⟩
        go_wp2
        go_ret
        exact ⟨rfl, b2.trans (b4.mono b2.size)⟩
      · rw [printV_ok hall]
        have hq : ∀ r ∈ rs, printB r.1 r.2.1 r.2.2 = true := List.all_eq_true.1 hall
        have hSz : (BA (rs.flatMap recText)).size ≤ 36700160 := by rw [size_BA]; have := text_len rs hq; have := HS.out; omega
        have HPA : Hid (∀ T : ByteArray, T.data.toList = [35] ++ t.data.toList ++ [10, 32, 9, 10] ++ (BA (rs.flatMap recText)).data.toList ++ [48, 48, 52, 49, 32, 59, 32, 120, 32, 35] ++ t.data.toList → ∀ W, Below wr.heap.size wr W →
            Calls Tryd.prog 9 #[.string T] W fun e w' => ∃ x, e = .returned (.tuple #[x, .int .i64 0, .int .i64 0]) ∧ View w' x (rs ++ [lastRec]) ∧ Below W.heap.size W w') := fun T hT W h => by
          have hsz : T.size ≤ 1073741824 := by
            have e := congrArg List.length hT
            simp only [List.length_append, size_list, List.length_cons, List.length_nil] at e
            omega
          have k := parse_any T W m hsz (HMX.out W h).1 (HMX.out W h).2
          rw [parse_idle rs hq t.data.toList H10.out T (by rw [hT, BA_data])] at k
          exact k.mono fun e w' ⟨x, h1, h2, h3⟩ => ⟨x, h1, h2.seen, h3⟩
        have HCL : Hid (∀ W, Below wr.heap.size wr W → Calls Tryd.prog 22 #[v] W fun e w' => ∃ v' L, e = .returned v' ∧ L.map RR.plain = rs ∧ w'.ownsRow W.heap.size 42 3 v' L.length (flatR L) ∧ (∀ q ∈ L, FV W q.fv q.fs) ∧ Below W.heap.size W w') := fun W h => cloneRecs_any v rs W (HV.out.below h (Nat.le_refl _)) hn
        have HFP : Hid (∀ r ∈ rs ++ [lastRec], 0 < r.2.2.length ∧ r.2.2.length ≤ 1048576) := fun r hr => by
          rcases List.mem_append.1 hr with hr | hr
          · exact ⟨(printB_bounds (hq r hr)).2.2.2, (HZ.out r hr).1⟩
          · obtain rfl := List.mem_singleton.1 hr; decide
        clear hall hq HV HZ HS HMX H10
        generalize BA (rs.flatMap recText) = S at *
        have c1 : (ByteArray.size ⟨#[35]⟩) = 1 := rfl
        have c2 : (ByteArray.size ⟨#[10, 32, 9, 10]⟩) = 4 := rfl
        have c3 : (ByteArray.size ⟨#[48, 48, 52, 49, 32, 59, 32, 120, 32, 35]⟩) = 10 := rfl
        go_wp2_with fail
        refine (HPA.out _ (by simp) w2 b2).mono ?_
        rintro e w3 ⟨x, rfl, hX, b3⟩
        have b13 := b2.trans (b3.mono b2.size)
        have HX : Hid (View w3 x (rs ++ [lastRec])) := hX
        obtain ⟨xa, xc, rfl, _⟩ := hX
        clear HPA
        go_wp2_with fail
        refine (HCL.out w3 b13).mono ?_
        rintro e w4 ⟨y, L, rfl, hL, ho, hf, b4⟩
        have b14 := b13.trans (b4.mono b13.size)
        obtain ⟨ya, yc, rfl⟩ := own_slice ho
        have HL : Hid (L.map RR.plain = rs) := hL
        have hLn : L.length ≤ 1048576 := by rw [← hL, List.length_map] at hn; exact hn
        have HO : Hid (w4.ownsRow w3.heap.size 42 3 (.slice ya L.length yc) L.length (flatR L)) := ho
        have HF : Hid (∀ q ∈ L, FV w3 q.fv q.fs) := hf
        have hs4 := b4.size
        have hs13 := b13.size
        clear HCL hL ho hf
        go_wp2_with (at_builtin; refine append_one (by rfl) _ _ rfl w3.heap.size _ _ _ rfl ((HO.out.alloc _).alloc _) ⟨w4.heap.size + 1, 0, none⟩ [.int .i64 65, .int .i64 65, .slice (some ⟨w4.heap.size, 0, none⟩) 1 1] rfl rfl (cell3_new _ _ (by simp) _ _ _ _) (by simp [Value.oneCell']) (by omega) (by simp; omega) ?_)
        intro v' w5 hown5 hgrow
        have b35 : Below w3.heap.size w3 w5 := ((b4.alloc hs4 _).alloc (by simp; omega) _).grown hgrow (by simp; omega) (fun k e => (HO.out.lt k e).1)
        have b15 := b13.trans (b35.mono b13.size)
        have hcx : w5.cell? ⟨w4.heap.size, 0, none⟩ = some (.string ⟨#[120]⟩) := hgrow.cell ((World.grownBy_alloc _ _ none).cell (cell_one_new _ _ _ 0 _ rfl) (by simp)) (fun e => by have := (HO.out.lt _ e.symm).2; simp at this)
        have HW : Hid (Own w5 w3.heap.size v' (rs ++ [lastRec])) := by
          refine ⟨L ++ [⟨65, 65, .slice (some ⟨w4.heap.size, 0, none⟩) 1 1, [BA [120]]⟩], by rw [List.map_append, HL.out]; rfl, by rw [List.length_append, flatR_append]; exact hown5, fun q hq => ?_⟩
          rcases List.mem_append.1 hq with hq | hq
          · exact (HF.out q hq).below b35 (Nat.le_refl _)
          · obtain rfl := List.mem_singleton.1 hq
            refine ⟨_, 1, rfl, fun _ => ⟨w4.heap.size, 0, rfl, fun j x hj => ?_⟩⟩
            match j, hj with
            | 0, hj => cases hj; exact hcx
            | j + 1, hj => simp at hj
        obtain ⟨va, vc, rfl⟩ := own_slice hown5
        have SA := sameRecs_any _ _ (rs ++ [lastRec]) w5 (by rw [List.length_append]; simp; omega) (fun r hr => by have := (HFP.out r hr).2; omega) (HX.out.below b35 (Nat.le_refl _)) (HW.out.view (fun r hr => (HFP.out r hr).1))
        rw [List.length_append] at SA
        clear hown5 hgrow HW HX HF HO HL HFP hcx
        go_wp2_with fail
        refine SA.mono ?_
        rintro e w6 ⟨rfl, b6⟩
        have b16 := b15.trans (b6.mono b15.size)
        clear SA
        go_wp2_with fail
        refine (HM.out _ b16).mono ?_
        rintro e w7 ⟨rfl, b7⟩
        go_wp2
        go_ret
        exact ⟨rfl, b16.trans (b7.mono b16.size)⟩
end Go.Proofs.YtciblkmbkdhdiaaDoor.lin
