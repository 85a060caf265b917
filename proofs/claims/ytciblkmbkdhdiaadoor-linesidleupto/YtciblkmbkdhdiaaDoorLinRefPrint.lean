/- What the document's Print answers of any records: the same as lines.Print. -/
import Derived.Test.YtciblkmbkdhdiaaDoorLinPrint
import Derived.Test.YtciblkmbkdhdiaaDoorLinRefTrim
set_option linter.unusedVariables false
set_option linter.unusedSimpArgs false
namespace Go.Proofs.YtciblkmbkdhdiaaDoor.lin
open Go.RowKit

set_option maxHeartbeats 1500000 in
set_option maxRecDepth 100000 in
theorem rprint_any (v : Value) (rs : List RecT) (w : World) (hv : InRecs w v rs) (hn : rs.length ≤ 1048576) (hz : ∀ r ∈ rs, r.2.2.length ≤ 1048576 ∧ ∀ f ∈ r.2.2, f.size ≤ 1048576) (hM : (rs.map recMax).sum ≤ 1099511627776) :
    Calls Tryd.prog 21 #[v] w fun e w' => e = .returned (.tuple #[.string (BA (printV rs).1), .int .i64 (printV rs).2]) ∧ Below w.heap.size w w' := by
  obtain ⟨a, c, rfl, hrow⟩ := hv
  have HROW : Hid (0 < rs.length → ∃ b o, a = some ⟨b, o, none⟩ ∧ ∀ (i : Nat) (r : RecT), rs[i]? = some r → RecIn w b (o + i * 3) r) := hrow
  have HN : Hid (∀ i, i < rs.length → ∃ x, rs[i]? = some x ∧ rs.take (i + 1) = rs.take i ++ [x]) := fun i h => ⟨_, List.getElem?_eq_getElem h, by rw [List.take_add_one, List.getElem?_eq_getElem h]; rfl⟩
  have HZ : Hid (∀ r ∈ rs, r.2.2.length ≤ 1048576 ∧ ∀ f ∈ r.2.2, f.size ≤ 1048576) := hz
  have HVT : Hid ((∀ r ∈ rs, printB r.1 r.2.1 r.2.2 = true) → printV rs = (rs.flatMap recText, 0)) := fun h => by unfold printV; rw [if_pos (List.all_eq_true.2 h)]
  have HVF : Hid (∀ r ∈ rs, printB r.1 r.2.1 r.2.2 = false → printV rs = ([], 1)) := fun r hr h => by
    unfold printV
    rw [if_neg]
    intro h'
    have := List.all_eq_true.1 h' r hr
    rw [h] at this
    cases this
  have HTX : Hid (∀ k r, rs[k]? = some r → (∀ q ∈ rs.take k, printB q.1 q.2.1 q.2.2 = true) → ((rs.take k).flatMap recText).length + recMax r ≤ 1099511627776) := fun k r h1 h2 => by
    have := text_len (rs.take k) h2
    have := sum_at rs k r h1
    omega
  clear hrow hz hM
  go_enter Tryd.func21, Tryd.ntmps21
  go_wp2
  go_loopw [4, 12] (fun o i wr => ∃ k : Nat, k ≤ rs.length ∧ o = .string (BA ((rs.take k).flatMap recText)) ∧ i = .int .i64 k ∧ Hid (∀ r ∈ rs.take k, printB r.1 r.2.1 r.2.2 = true) ∧ Below w.heap.size w wr) (fun _ i _ => rs.length - (RowKit.intOf i).toNat)
  case atStart => exact ⟨0, Nat.zero_le _, rfl, rfl, fun r hr => (by simp at hr), Below.refl _ _⟩
  case round =>
    obtain ⟨k, hk, rfl, rfl, HA, hbel⟩ := hrel
    by_cases hkl : k < rs.length
    · obtain ⟨r, hr, htk⟩ := HN.out k hkl
      obtain ⟨rb, ro, rfl, hrec⟩ := HROW.out (by omega)
      have hkl' : (k : Int) < (rs.length : Int) := by omega
      obtain ⟨p1, p2, fv, p3, hfv⟩ := (hrec k r hr).below hbel (Nat.le_refl _)
      obtain ⟨_, _, fv0, q3, hfv0⟩ := hrec k r hr
      have hfe : fv0 = fv := by
        have := (hbel.cell (p := ⟨rb, ro + k * 3 + 1 + 1, none⟩) (World.block_lt_of_cell? w _ q3)).trans q3
        rw [p3] at this
        cases this
        rfl
      subst hfe
      have hrm := List.mem_of_getElem? hr
      obtain ⟨hz1, hz2⟩ := HZ.out r hrm
      have HTL := HTX.out k r hr HA.out
      have HVR := HVF.out r hrm
      obtain ⟨lo, hi, fs⟩ := r
      simp only [] at p1 p2 p3 hz1 hz2 HVR hfv hfv0
      have HFV0 : Hid (FV w fv0 fs) := hfv0
      have HVR2 : Hid (printB lo hi fs = false → printV rs = ([], 1)) := HVR
      have HTL2 : Hid (((rs.take k).flatMap recText).length + recMax (lo, hi, fs) ≤ 1099511627776) := HTL
      have HTK : Hid (rs.take (k + 1) = rs.take k ++ [(lo, hi, fs)]) := htk
      obtain ⟨fa, fc, rfl, _⟩ := hfv0
      clear hrec q3 hr htk hfv HVR HTL
      generalize hTe : (rs.take k).flatMap recText = T at *
      have HTE : Hid ((rs.take k).flatMap recText = T) := hTe
      clear hTe
      have hszr := hbel.size
      have b0 : Hid (∀ o, Below w.heap.size w (wr.alloc o)) := fun o => hbel.alloc hszr o
      cases hh : headOk lo hi fs with
      | false =>
        have HV : Hid (printV rs = ([], 1)) := HVR2.out (by unfold printB; rw [hh]; rfl)
        have HH : Hid (lo < 0 ∨ hi < lo ∨ 1114111 < hi ∨ fs.length = 0) := by
          unfold headOk at hh
          rw [Hid]
          simp at hh
          by_cases h1 : lo < 0
          · exact .inl h1
          · by_cases h2 : hi < lo
            · exact .inr (.inl h2)
            · by_cases h3 : 1114111 < hi
              · exact .inr (.inr (.inl h3))
              · have h4 := hh (by omega) (by omega) (by omega)
                exact .inr (.inr (.inr (by rw [h4]; rfl)))
        clear hh HVR2 HTL2 HTK HTE HA HFV0
        by_cases c1 : lo < 0
        · go_wp2
          go_ret2
          exact ⟨by rw [HV.out]; rfl, b0.out _⟩
        · by_cases c2 : hi < lo
          · go_wp2
            go_ret2
            exact ⟨by rw [HV.out]; rfl, b0.out _⟩
          · by_cases c3 : (1114111 : Int) < hi
            · go_wp2
              go_ret2
              exact ⟨by rw [HV.out]; rfl, b0.out _⟩
            · have t4 : ((fs.length : Int) == 0) = true := by have := HH.out; rw [beq_iff_eq]; omega
              go_wp2
              go_ret2
              exact ⟨by rw [HV.out]; rfl, b0.out _⟩
      | true =>
        have HH : Hid (headOk lo hi fs = true) := hh
        have h4 : 0 ≤ lo ∧ lo ≤ hi ∧ hi ≤ 1114111 ∧ 0 < fs.length := by
          unfold headOk at hh
          simpa [and_assoc] using hh
        obtain ⟨g1, g2, g3, g4⟩ := h4
        obtain ⟨n1, rfl⟩ : ∃ n1 : Nat, lo = n1 := ⟨lo.toNat, by omega⟩
        obtain ⟨n2, rfl⟩ : ∃ n2 : Nat, hi = n2 := ⟨hi.toNat, by omega⟩
        have hn1 : n1 ≤ 1114111 := by omega
        have hn2 : n2 ≤ 1114111 := by omega
        obtain ⟨fa', fc', hfe, hfr⟩ := HFV0.out
        cases hfe
        obtain ⟨g, og, rfl, hcell⟩ := hfr g4
        have HFC : Hid (∀ (j : Nat) (x : ByteArray), fs[j]? = some x → w.cell? ⟨g, og + j, none⟩ = some (.string x)) := hcell
        have HFN : Hid (∀ i, i < fs.length → ∃ x, fs[i]? = some x ∧ fs.take (i + 1) = fs.take i ++ [x]) := fun i h => ⟨_, List.getElem?_eq_getElem h, by rw [List.take_add_one, List.getElem?_eq_getElem h]; rfl⟩
        have htt : T.length ≤ 1099511627776 := by have := HTL2.out; omega
        have hl1 := pointL_len n1 hn1
        have hl2 := pointL_len n2 hn2
        have k1 : ¬ (n1 : Int) < 0 := by omega
        have k2 : ¬ (n2 : Int) < (n1 : Int) := by omega
        have k3 : ¬ (1114111 : Int) < (n2 : Int) := by omega
        have k4 : ((fs.length : Int) == 0) = false := by rw [beq_eq_false_iff_ne]; omega
        have P1 := fun W => point_any n1 W (by omega)
        have P2 := fun W => point_any n2 W (by omega)
        clear hfr hcell HFV0 hh
        go_wp2_with fail
        refine (P1 _).mono ?_
        rintro e w2 ⟨rfl, b2⟩
        have hsz0 : (wr.alloc (.cells #[.int .i64 n1, .int .i64 n2, .slice (some ⟨g, og, none⟩) fs.length fc] 42)).heap.size = wr.heap.size + 1 := World.size_alloc _ _
        have HBX2 : Hid (w2.heap[wr.heap.size]? = some (.cells #[.int .i64 n1, .int .i64 n2, .slice (some ⟨g, og, none⟩) fs.length fc] 42 (0, 0))) := (b2.block _ (by rw [hsz0]; omega)).trans (World.alloc_heap_new wr _)
        have b02 : Below w.heap.size w w2 := (b0.out _).trans (b2.mono (by rw [hsz0]; omega))
        clear P1 b2 hsz0 b0 hbel p1 p2 p3
        have hbx := HBX2.out
        have e0 := cell_of_row w2 wr.heap.size 0 _ _ _ hbx
        have e1 := cell_of_row w2 wr.heap.size 1 _ _ _ hbx
        have e2 := cell_of_row w2 wr.heap.size 2 _ _ _ hbx
        simp at e0 e1 e2
        have hbT : (BA T).size = T.length := rfl
        have hb1 : (BA (pointL n1)).size = (pointL n1).length := rfl
        have ap1 : BA T ++ BA (pointL n1) = BA (T ++ pointL n1) := BA_append _ _
        by_cases heq : n2 = n1
        · have t1 : ((n2 : Int) != (n1 : Int)) = false := by simp; omega
          have HT5 : Hid ((T ++ pointL n1).length ≤ T.length + 14) := by rw [Hid, List.length_append]; omega
          have HT5E : Hid (T ++ pointL n1 = T ++ headText (n1 : Int) (n2 : Int)) := by
            unfold Hid headText
            rw [if_pos (by omega)]
            simp
          have b05 := b02
          clear hbx HBX2 P2 b02
          generalize hT5 : T ++ pointL n1 = T5 at *
          clear hT5
          go_wp2
          go_loopw [4, 56] (fun o i wq => ∃ j : Nat, j ≤ fs.length ∧ o = .string (BA (T5 ++ tailText (fs.take j))) ∧ i = .int .i64 j ∧ Hid ((fs.take j).all okF = true) ∧ Below w.heap.size w wq) (fun _ i _ => fs.length - (RowKit.intOf i).toNat)
          case atStart => exact ⟨0, Nat.zero_le _, by rw [List.take_zero]; show _ = Value.string (BA (T5 ++ [])); rw [List.append_nil], rfl, rfl, b05⟩
          case round =>
            clear b05 e2
            obtain ⟨j, hj, rfl, rfl, HAJ, hbq⟩ := hrel
            have htq : (T5 ++ tailText (fs.take j)).length ≤ 1099511627776 := by
              have h1 := HT5.out
              have h2 := HTL2.out
              have h3 := tailText_take fs j
              unfold recMax at h2
              rw [List.length_append]
              simp only [] at h2
              omega
            by_cases hjl : j < fs.length
            · obtain ⟨x, hx, hxt⟩ := HFN.out j hjl
              have hjl' : (j : Int) < (fs.length : Int) := by omega
              have hxm := List.mem_of_getElem? hx
              have hxs := hz2 x hxm
              have hgx : g < w.heap.size := World.block_lt_of_cell? w _ (HFC.out j x hx)
              have cx : wr.cell? ⟨g, og + j, none⟩ = some (.string x) := (hbq.cell (p := ⟨g, og + j, none⟩) hgx).trans (HFC.out j x hx)
              have HBADF : Hid (okF x = false → printV rs = ([], 1)) := fun h => HVR2.out (by
                unfold printB
                rw [show fs.all okF = false from by rw [List.all_eq_false]; exact ⟨x, hxm, by rw [h]; simp⟩, Bool.and_false])
              have HXT : Hid (fs.take (j + 1) = fs.take j ++ [x]) := hxt
              have TR := rtrim_any x wr (by omega)
              have HOK : Hid (okF x = (!badB x.data.toList && decide (trim x = x))) := rfl
              clear hx hxt hxm
              generalize hX : tailText (fs.take j) = TJ at *
              generalize hTQ : T5 ++ TJ = TQ at *
              have HTQ : Hid (T5 ++ TJ = TQ) := hTQ
              clear hTQ
              generalize trim x = tx at *
              go_wp2_with fail
              refine TR.mono ?_
              rintro e wt ⟨rfl, hwt⟩
              subst hwt
              clear TR cx
              by_cases hte : tx = x
              · subst hte
                have HOK2 : Hid (okF tx = !badB tx.data.toList) := by rw [Hid, HOK.out]; simp
                clear HOK
                go_wp2
                go_loopw [9] (fun i wz => ∃ p : Nat, p ≤ tx.size ∧ i = .int .i64 p ∧ Hid (∀ q, q < p → q < tx.size → ¬ (at8 tx q = 59 ∨ at8 tx q = 35 ∨ at8 tx q = 10)) ∧ wz = wt) (fun i _ => tx.size - (RowKit.intOf i).toNat)
                case atStart => exact ⟨0, Nat.zero_le _, rfl, fun q h => absurd h (Nat.not_lt_zero _), rfl⟩
                case round =>
                  obtain ⟨p, hp, rfl, HNB, rfl⟩ := hrel
                  by_cases hpl : p < tx.size
                  · have hpl' : (p : Int) < (tx.size : Int) := by omega
                    have he := at8_eq tx p hpl
                    have HBT : Hid ((at8 tx p = 59 ∨ at8 tx p = 35 ∨ at8 tx p = 10) → printV rs = ([], 1)) := fun h => HBADF.out (by rw [HOK2.out, badB_true tx p hpl h]; rfl)
                    rw [he] at HBT
                    have HNB2 : Hid (¬ (((tx[p]'hpl).toNat : Int) = 59 ∨ ((tx[p]'hpl).toNat : Int) = 35 ∨ ((tx[p]'hpl).toNat : Int) = 10) → ∀ q, q < p + 1 → q < tx.size → ¬ (at8 tx q = 59 ∨ at8 tx q = 35 ∨ at8 tx q = 10)) := by
                      intro h q h1 h2
                      rcases Nat.lt_or_ge q p with h3 | h3
                      · exact HNB.out q h3 h2
                      · obtain rfl : q = p := by omega
                        rw [he]; exact h
                    clear he HNB
                    generalize hr : (tx[p]'hpl).toNat = y at *
                    by_cases y1 : y = 59
                    · have HV : Hid (printV rs = ([], 1)) := HBT.out (by omega)
                      have s1 : ((y : Int) == 59) = true := by rw [beq_iff_eq]; omega
                      clear HBT HNB2 y1
                      go_wp2
                      go_ret2
                      exact ⟨by rw [HV.out]; rfl, hbq⟩
                    · have s1 : ((y : Int) == 59) = false := by rw [beq_eq_false_iff_ne]; omega
                      by_cases y2 : y = 35
                      · have HV : Hid (printV rs = ([], 1)) := HBT.out (by omega)
                        have s2 : ((y : Int) == 35) = true := by rw [beq_iff_eq]; omega
                        clear HBT HNB2 y2 y1
                        go_wp2
                        go_ret2
                        exact ⟨by rw [HV.out]; rfl, hbq⟩
                      · have s2 : ((y : Int) == 35) = false := by rw [beq_eq_false_iff_ne]; omega
                        by_cases y3 : y = 10
                        · have HV : Hid (printV rs = ([], 1)) := HBT.out (by omega)
                          have s3 : ((y : Int) == 10) = true := by rw [beq_iff_eq]; omega
                          clear HBT HNB2 y3 y2 y1
                          go_wp2
                          go_ret2
                          exact ⟨by rw [HV.out]; rfl, hbq⟩
                        · have s3 : ((y : Int) == 10) = false := by rw [beq_eq_false_iff_ne]; omega
                          have HNB3 : Hid (∀ q, q < p + 1 → q < tx.size → ¬ (at8 tx q = 59 ∨ at8 tx q = 35 ∨ at8 tx q = 10)) := HNB2.out (by omega)
                          clear HBT HNB2 y3 y2 y1
                          go_wp2
                          go_roundw
                          case rel => exact ⟨p + 1, by omega, by go_num, HNB3, trivial⟩
                          case measure => simp [RowKit.intOf]; omega
                  · obtain rfl : p = tx.size := by omega
                    have HAJ2 : Hid ((fs.take (j + 1)).all okF = true) := by
                      rw [Hid, HXT.out, List.all_append, HAJ.out]
                      simp only [List.all_cons, List.all_nil, Bool.and_true, Bool.true_and]
                      rw [HOK2.out, badB_false tx (fun q hq => HNB.out q hq hq)]
                      rfl
                    have hs3 : (ByteArray.size ⟨#[32, 59, 32]⟩) = 3 := rfl
                    have HCC : Hid (BA TQ ++ (⟨#[32, 59, 32]⟩ ++ tx) = BA (T5 ++ tailText (fs.take (j + 1)))) := by
                      rw [Hid, HXT.out, tailText_snoc, hX, ← HTQ.out]
                      conv => lhs; rw [show (⟨#[32, 59, 32]⟩ : ByteArray) = BA [32, 59, 32] from rfl, ← BA_list tx]
                      rw [BA_append, BA_append, List.append_assoc]
                    have hbsz : (BA TQ).size = TQ.length := rfl
                    clear HNB HBADF HOK2
                    go_wp2
                    go_roundw
                    case rel => exact ⟨j + 1, by omega, by rw [HCC.out], by go_num, HAJ2, hbq⟩
                    case measure => simp [RowKit.intOf]; omega
              · have hne : (tx.toList == x.toList) = false := by
                  rw [beq_eq_false_iff_ne]
                  intro e
                  rw [Lib.toList_data, Lib.toList_data] at e
                  exact hte (by rw [← BA_list tx, e, BA_list])
                have HV : Hid (printV rs = ([], 1)) := HBADF.out (by rw [HOK.out]; simp [hte])
                clear HBADF HOK
                go_wp2
                go_ret2
                exact ⟨by rw [HV.out]; rfl, hbq⟩
            · obtain rfl : j = fs.length := by omega
              rw [List.take_length] at HAJ
              rw [List.take_length] at htq ⊢
              have HPB : Hid (printB (n1 : Int) (n2 : Int) fs = true) := by unfold Hid printB; rw [HH.out, HAJ.out]; rfl
              have HA2 : Hid (∀ q ∈ rs.take (k + 1), printB q.1 q.2.1 q.2.2 = true) := by
                intro q hq
                rw [HTK.out] at hq
                rcases List.mem_append.1 hq with hq | hq
                · exact HA.out q hq
                · obtain rfl := List.mem_singleton.1 hq
                  exact HPB.out
              have HCC : Hid (BA (T5 ++ tailText fs) ++ ⟨#[10]⟩ = BA ((rs.take (k + 1)).flatMap recText)) := by
                rw [Hid, HTK.out, List.flatMap_append, HTE.out, HT5E.out, show (⟨#[10]⟩ : ByteArray) = BA [10] from rfl, BA_append]
                simp [recText]
              have hbsz : (BA (T5 ++ tailText fs)).size = (T5 ++ tailText fs).length := rfl
              generalize T5 ++ tailText fs = TF at *
              go_wp2
              go_roundw
              case rel => exact ⟨k + 1, by omega, by rw [HCC.out], by go_num, HA2, hbq⟩
              case measure => simp [RowKit.intOf]; omega
        · have t1 : ((n2 : Int) != (n1 : Int)) = true := by simp; omega
          have hbx2 := HBX2.out
          go_wp2_with fail
          refine (P2 _).mono ?_
          rintro e w3 ⟨rfl, b3⟩
          clear P2 e0 e1 e2 hbx2
          have hbx3 := (b3.block _ (Array.getElem?_eq_some_iff.1 hbx).1).trans hbx
          have e2 := cell_of_row w3 wr.heap.size 2 _ _ _ hbx3
          simp at e2
          have b05 := b02.trans (b3.mono b02.size)
          have hb2 : (BA (pointL n2)).size = (pointL n2).length := rfl
          have hb12 : (BA (T ++ pointL n1)).size = T.length + (pointL n1).length := by rw [BA_size, List.length_append]
          have ap2 : BA (T ++ pointL n1) ++ (⟨#[46, 46]⟩ ++ BA (pointL n2)) = BA (T ++ pointL n1 ++ ([46, 46] ++ pointL n2)) := by
            rw [show (⟨#[46, 46]⟩ : ByteArray) = BA [46, 46] from rfl, BA_append, BA_append]
          have HT5 : Hid ((T ++ pointL n1 ++ ([46, 46] ++ pointL n2)).length ≤ T.length + 14) := by rw [Hid, List.length_append, List.length_append, List.length_append]; show _ + _ + (2 + _) ≤ _; omega
          have HT5E : Hid (T ++ pointL n1 ++ ([46, 46] ++ pointL n2) = T ++ headText (n1 : Int) (n2 : Int)) := by
            unfold Hid headText
            rw [if_neg (by omega)]
            simp
          generalize hT5 : T ++ pointL n1 ++ ([46, 46] ++ pointL n2) = T5 at *
          clear hT5 hbx HBX2 b3 b02 hbx3
          go_wp2
          go_loopw [4, 56] (fun o i wq => ∃ j : Nat, j ≤ fs.length ∧ o = .string (BA (T5 ++ tailText (fs.take j))) ∧ i = .int .i64 j ∧ Hid ((fs.take j).all okF = true) ∧ Below w.heap.size w wq) (fun _ i _ => fs.length - (RowKit.intOf i).toNat)
          case atStart => exact ⟨0, Nat.zero_le _, by rw [List.take_zero]; show _ = Value.string (BA (T5 ++ [])); rw [List.append_nil], rfl, rfl, b05⟩
          case round =>
            clear b05 e2
            obtain ⟨j, hj, rfl, rfl, HAJ, hbq⟩ := hrel
            have htq : (T5 ++ tailText (fs.take j)).length ≤ 1099511627776 := by
              have h1 := HT5.out
              have h2 := HTL2.out
              have h3 := tailText_take fs j
              unfold recMax at h2
              rw [List.length_append]
              simp only [] at h2
              omega
            by_cases hjl : j < fs.length
            · obtain ⟨x, hx, hxt⟩ := HFN.out j hjl
              have hjl' : (j : Int) < (fs.length : Int) := by omega
              have hxm := List.mem_of_getElem? hx
              have hxs := hz2 x hxm
              have hgx : g < w.heap.size := World.block_lt_of_cell? w _ (HFC.out j x hx)
              have cx : wr.cell? ⟨g, og + j, none⟩ = some (.string x) := (hbq.cell (p := ⟨g, og + j, none⟩) hgx).trans (HFC.out j x hx)
              have HBADF : Hid (okF x = false → printV rs = ([], 1)) := fun h => HVR2.out (by
                unfold printB
                rw [show fs.all okF = false from by rw [List.all_eq_false]; exact ⟨x, hxm, by rw [h]; simp⟩, Bool.and_false])
              have HXT : Hid (fs.take (j + 1) = fs.take j ++ [x]) := hxt
              have TR := rtrim_any x wr (by omega)
              have HOK : Hid (okF x = (!badB x.data.toList && decide (trim x = x))) := rfl
              clear hx hxt hxm
              generalize hX : tailText (fs.take j) = TJ at *
              generalize hTQ : T5 ++ TJ = TQ at *
              have HTQ : Hid (T5 ++ TJ = TQ) := hTQ
              clear hTQ
              generalize trim x = tx at *
              go_wp2_with fail
              refine TR.mono ?_
              rintro e wt ⟨rfl, hwt⟩
              subst hwt
              clear TR cx
              by_cases hte : tx = x
              · subst hte
                have HOK2 : Hid (okF tx = !badB tx.data.toList) := by rw [Hid, HOK.out]; simp
                clear HOK
                go_wp2
                go_loopw [9] (fun i wz => ∃ p : Nat, p ≤ tx.size ∧ i = .int .i64 p ∧ Hid (∀ q, q < p → q < tx.size → ¬ (at8 tx q = 59 ∨ at8 tx q = 35 ∨ at8 tx q = 10)) ∧ wz = wt) (fun i _ => tx.size - (RowKit.intOf i).toNat)
                case atStart => exact ⟨0, Nat.zero_le _, rfl, fun q h => absurd h (Nat.not_lt_zero _), rfl⟩
                case round =>
                  obtain ⟨p, hp, rfl, HNB, rfl⟩ := hrel
                  by_cases hpl : p < tx.size
                  · have hpl' : (p : Int) < (tx.size : Int) := by omega
                    have he := at8_eq tx p hpl
                    have HBT : Hid ((at8 tx p = 59 ∨ at8 tx p = 35 ∨ at8 tx p = 10) → printV rs = ([], 1)) := fun h => HBADF.out (by rw [HOK2.out, badB_true tx p hpl h]; rfl)
                    rw [he] at HBT
                    have HNB2 : Hid (¬ (((tx[p]'hpl).toNat : Int) = 59 ∨ ((tx[p]'hpl).toNat : Int) = 35 ∨ ((tx[p]'hpl).toNat : Int) = 10) → ∀ q, q < p + 1 → q < tx.size → ¬ (at8 tx q = 59 ∨ at8 tx q = 35 ∨ at8 tx q = 10)) := by
                      intro h q h1 h2
                      rcases Nat.lt_or_ge q p with h3 | h3
                      · exact HNB.out q h3 h2
                      · obtain rfl : q = p := by omega
                        rw [he]; exact h
                    clear he HNB
                    generalize hr : (tx[p]'hpl).toNat = y at *
                    by_cases y1 : y = 59
                    · have HV : Hid (printV rs = ([], 1)) := HBT.out (by omega)
                      have s1 : ((y : Int) == 59) = true := by rw [beq_iff_eq]; omega
                      clear HBT HNB2 y1
                      go_wp2
                      go_ret2
                      exact ⟨by rw [HV.out]; rfl, hbq⟩
                    · have s1 : ((y : Int) == 59) = false := by rw [beq_eq_false_iff_ne]; omega
                      by_cases y2 : y = 35
                      · have HV : Hid (printV rs = ([], 1)) := HBT.out (by omega)
                        have s2 : ((y : Int) == 35) = true := by rw [beq_iff_eq]; omega
                        clear HBT HNB2 y2 y1
                        go_wp2
                        go_ret2
                        exact ⟨by rw [HV.out]; rfl, hbq⟩
                      · have s2 : ((y : Int) == 35) = false := by rw [beq_eq_false_iff_ne]; omega
                        by_cases y3 : y = 10
                        · have HV : Hid (printV rs = ([], 1)) := HBT.out (by omega)
                          have s3 : ((y : Int) == 10) = true := by rw [beq_iff_eq]; omega
                          clear HBT HNB2 y3 y2 y1
                          go_wp2
                          go_ret2
                          exact ⟨by rw [HV.out]; rfl, hbq⟩
                        · have s3 : ((y : Int) == 10) = false := by rw [beq_eq_false_iff_ne]; omega
                          have HNB3 : Hid (∀ q, q < p + 1 → q < tx.size → ¬ (at8 tx q = 59 ∨ at8 tx q = 35 ∨ at8 tx q = 10)) := HNB2.out (by omega)
                          clear HBT HNB2 y3 y2 y1
                          go_wp2
                          go_roundw
                          case rel => exact ⟨p + 1, by omega, by go_num, HNB3, trivial⟩
                          case measure => simp [RowKit.intOf]; omega
                  · obtain rfl : p = tx.size := by omega
                    have HAJ2 : Hid ((fs.take (j + 1)).all okF = true) := by
                      rw [Hid, HXT.out, List.all_append, HAJ.out]
                      simp only [List.all_cons, List.all_nil, Bool.and_true, Bool.true_and]
                      rw [HOK2.out, badB_false tx (fun q hq => HNB.out q hq hq)]
                      rfl
                    have hs3 : (ByteArray.size ⟨#[32, 59, 32]⟩) = 3 := rfl
                    have HCC : Hid (BA TQ ++ (⟨#[32, 59, 32]⟩ ++ tx) = BA (T5 ++ tailText (fs.take (j + 1)))) := by
                      rw [Hid, HXT.out, tailText_snoc, hX, ← HTQ.out]
                      conv => lhs; rw [show (⟨#[32, 59, 32]⟩ : ByteArray) = BA [32, 59, 32] from rfl, ← BA_list tx]
                      rw [BA_append, BA_append, List.append_assoc]
                    have hbsz : (BA TQ).size = TQ.length := rfl
                    clear HNB HBADF HOK2
                    go_wp2
                    go_roundw
                    case rel => exact ⟨j + 1, by omega, by rw [HCC.out], by go_num, HAJ2, hbq⟩
                    case measure => simp [RowKit.intOf]; omega
              · have hne : (tx.toList == x.toList) = false := by
                  rw [beq_eq_false_iff_ne]
                  intro e
                  rw [Lib.toList_data, Lib.toList_data] at e
                  exact hte (by rw [← BA_list tx, e, BA_list])
                have HV : Hid (printV rs = ([], 1)) := HBADF.out (by rw [HOK.out]; simp [hte])
                clear HBADF HOK
                go_wp2
                go_ret2
                exact ⟨by rw [HV.out]; rfl, hbq⟩
            · obtain rfl : j = fs.length := by omega
              rw [List.take_length] at HAJ
              rw [List.take_length] at htq ⊢
              have HPB : Hid (printB (n1 : Int) (n2 : Int) fs = true) := by unfold Hid printB; rw [HH.out, HAJ.out]; rfl
              have HA2 : Hid (∀ q ∈ rs.take (k + 1), printB q.1 q.2.1 q.2.2 = true) := by
                intro q hq
                rw [HTK.out] at hq
                rcases List.mem_append.1 hq with hq | hq
                · exact HA.out q hq
                · obtain rfl := List.mem_singleton.1 hq
                  exact HPB.out
              have HCC : Hid (BA (T5 ++ tailText fs) ++ ⟨#[10]⟩ = BA ((rs.take (k + 1)).flatMap recText)) := by
                rw [Hid, HTK.out, List.flatMap_append, HTE.out, HT5E.out, show (⟨#[10]⟩ : ByteArray) = BA [10] from rfl, BA_append]
                simp [recText]
              have hbsz : (BA (T5 ++ tailText fs)).size = (T5 ++ tailText fs).length := rfl
              generalize T5 ++ tailText fs = TF at *
              go_wp2
              go_roundw
              case rel => exact ⟨k + 1, by omega, by rw [HCC.out], by go_num, HA2, hbq⟩
              case measure => simp [RowKit.intOf]; omega
    · obtain rfl : k = rs.length := by omega
      rw [List.take_length] at HA ⊢
      have HV : Hid (printV rs = (rs.flatMap recText, 0)) := HVT.out HA.out
      go_wp2
      go_ret2
      exact ⟨by rw [HV.out]; rfl, hbel⟩
end Go.Proofs.YtciblkmbkdhdiaaDoor.lin
