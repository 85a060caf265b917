/- What lines.Print answers of any records. -/
import Derived.Test.YtciblkmbkdhdiaaDoorLinPrintable
import Derived.Test.YtciblkmbkdhdiaaDoorLinSame
set_option linter.unusedVariables false
set_option linter.unusedSimpArgs false
namespace Go.Proofs.YtciblkmbkdhdiaaDoor.lin
open Go.RowKit

/-- A record among the arguments. -/
def RecIn (w : World) (b off : Nat) (r : RecT) : Prop :=
  w.cell? ⟨b, off, none⟩ = some (.int .i64 r.1) ∧ w.cell? ⟨b, off + 1, none⟩ = some (.int .i64 r.2.1) ∧ ∃ fv, w.cell? ⟨b, off + 1 + 1, none⟩ = some fv ∧ FV w fv r.2.2
def InRecs (w : World) (v : Value) (rs : List RecT) : Prop :=
  ∃ a c, v = .slice a rs.length c ∧ (0 < rs.length → ∃ b o, a = some ⟨b, o, none⟩ ∧ ∀ (i : Nat) (r : RecT), rs[i]? = some r → RecIn w b (o + i * 3) r)
theorem RecIn.below {w w' : World} {b off : Nat} {r : RecT} (h : RecIn w b off r) {n : Nat} (hb : Below n w w') (hn : w.heap.size ≤ n) : RecIn w' b off r := by
  obtain ⟨h1, h2, fv, h3, h4⟩ := h
  have k : ∀ (a : Addr) (v : Value), w.cell? a = some v → w'.cell? a = some v := fun a v h => (hb.cell (p := a) (by have := World.block_lt_of_cell? w a h; omega)).trans h
  exact ⟨k _ _ h1, k _ _ h2, fv, k _ _ h3, h4.below hb hn⟩

/-- A record as a line. -/
def tailText (fs : List ByteArray) : List UInt8 := fs.flatMap fun f => [32, 59, 32] ++ f.data.toList
def headText (lo hi : Int) : List UInt8 := pointL lo.toNat ++ (if hi = lo then [] else [46, 46] ++ pointL hi.toNat)
def recText (r : RecT) : List UInt8 := headText r.1 r.2.1 ++ tailText r.2.2 ++ [10]
def recMax (r : RecT) : Nat := 32 + (tailText r.2.2).length
def printV (rs : List RecT) : List UInt8 × Int := if rs.all (fun r => printB r.1 r.2.1 r.2.2) then (rs.flatMap recText, 0) else ([], 1)

theorem pointL_len (n : Nat) (h : n ≤ 1114111) : (pointL n).length ≤ 6 := by
  have := hexU_len 6 n (by omega)
  unfold pointL
  rw [List.length_append, List.length_replicate]
  omega

/-- The builder in block B holds l. -/
def Bd (w : World) (B : Nat) (l : List UInt8) : Prop := Lib.IsBuilderF 58 5 B B (Lib.byteCells l) w
theorem Bd.kept {w w' : World} {B : Nat} {l : List UInt8} (h : Bd w B l) (hb : Below w.heap.size w w') : Bd w' B l := by
  have hg : w.grownBy w' none := ⟨hb.os, hb.tape, hb.output, hb.size, fun k hk _ => hb.block k hk⟩
  have one : ∀ p, Lib.BuilderAtF 58 5 B B p (Lib.byteCells l) w → Lib.BuilderAtF 58 5 B B p (Lib.byteCells l) w' := by
    rintro p ⟨hB, v, hbk, hown, hne⟩
    refine ⟨hB, v, (hb.block B (Array.getElem?_eq_some_iff.1 hbk).1).trans hbk, hown.kept hg ?_, hne⟩
    cases hv : v.ownBlock with
    | none => exact .inl rfl
    | some k => exact .inr (by simp)
  rcases h with h | h
  · exact .inl (one _ h)
  · exact .inr (one _ h)
theorem Bd.lt {w : World} {B : Nat} {l : List UInt8} (h : Bd w B l) : B < w.heap.size := by
  rcases h with h | h
  · exact h.lt
  · exact h.lt
theorem byteCells_append (a b : List UInt8) : Lib.byteCells (a ++ b) = Lib.byteCells a ++ Lib.byteCells b := by simp [Lib.byteCells]
theorem wstr_any (B : Nat) (l : List UInt8) (s : ByteArray) (w : World) (h : Bd w B l) (hlen : l.length + s.size ≤ 140737488355328) :
    Calls Tryd.prog 33 #[.pointer (some ⟨B, 0, none⟩), .string s] w fun e w' => e = .returned (.tuple #[.int .i64 s.size, .nilIface]) ∧ Bd w' B (l ++ s.data.toList) ∧ Below B w w' ∧ Lib.OthersKept 5 (some B) w w' := by
  refine (wstr_k B B (Lib.byteCells l) s w h (by rw [Lib.byteCells_length]; exact hlen) (Nat.le_of_lt h.lt)).mono ?_
  rintro e w' ⟨rfl, h1, h2, h3⟩
  refine ⟨rfl, .inr ?_, h2, h3⟩
  rw [byteCells_append]
  exact h1
theorem wbyte_any (B : Nat) (l : List UInt8) (c : UInt8) (w : World) (h : Bd w B l) (hlen : l.length + 1 ≤ 140737488355328) :
    Calls Tryd.prog 35 #[.pointer (some ⟨B, 0, none⟩), .int .u8 c.toNat] w fun e w' => e = .returned .nilIface ∧ Bd w' B (l ++ [c]) ∧ Below B w w' ∧ Lib.OthersKept 5 (some B) w w' := by
  refine (wbyte_k B B (Lib.byteCells l) c.toNat w h (by rw [Lib.byteCells_length]; exact hlen) (Nat.le_of_lt h.lt)).mono ?_
  rintro e w' ⟨rfl, h1, h2, h3⟩
  refine ⟨rfl, .inr ?_, h2, h3⟩
  rw [byteCells_append]
  exact h1
theorem string_any (B : Nat) (l : List UInt8) (w : World) (h : Bd w B l) :
    Calls Tryd.prog 36 #[.pointer (some ⟨B, 0, none⟩)] w fun e w' => e = .returned (.string (BA l)) ∧ Below B w w' :=
  (Tryd.Builder_String_any_k B B l w h (Nat.le_of_lt h.lt)).mono fun e w' ⟨h1, _, h3, _⟩ => ⟨h1, h3⟩
theorem Bd.new (w : World) : Bd (w.alloc (.cells #[.pointer none, .slice none 0 0] 58)) w.heap.size [] :=
  .inl ⟨Nat.le_refl _, .slice none 0 0, World.alloc_heap_new w _, World.ownsRowF_nil _ _ _ _, by simp [Value.ownBlock]⟩

theorem headText_len (lo hi : Int) (h1 : lo.toNat ≤ 1114111) (h2 : hi.toNat ≤ 1114111) : (headText lo hi).length ≤ 14 := by
  have := pointL_len lo.toNat h1
  have := pointL_len hi.toNat h2
  unfold headText
  rw [List.length_append]
  split
  · simp; omega
  · simp; omega
theorem printB_bounds {lo hi : Int} {fs : List ByteArray} (h : printB lo hi fs = true) : 0 ≤ lo ∧ lo ≤ hi ∧ hi ≤ 1114111 ∧ 0 < fs.length := by
  unfold printB at h
  rw [Bool.and_eq_true] at h
  have h := h.1
  unfold headOk at h
  simpa [and_assoc] using h
theorem recText_len (r : RecT) (h : printB r.1 r.2.1 r.2.2 = true) : (recText r).length ≤ recMax r := by
  obtain ⟨h1, h2, h3, _⟩ := printB_bounds h
  have := headText_len r.1 r.2.1 (by omega) (by omega)
  unfold recText recMax
  rw [List.length_append, List.length_append]
  simp
  omega
theorem text_len : ∀ rs : List RecT, (∀ r ∈ rs, printB r.1 r.2.1 r.2.2 = true) → (rs.flatMap recText).length ≤ (rs.map recMax).sum
  | [], _ => by simp
  | r :: rs, h => by
    have h1 := recText_len r (h r (by simp))
    have h2 := text_len rs (fun q hq => h q (by simp [hq]))
    simp only [List.flatMap_cons, List.length_append, List.map_cons, List.sum_cons]
    omega
theorem sum_at (rs : List RecT) (k : Nat) (r : RecT) (h : rs[k]? = some r) : ((rs.take k).map recMax).sum + recMax r ≤ (rs.map recMax).sum := by
  have hk := (List.getElem?_eq_some_iff.1 h).1
  have e : rs = rs.take k ++ r :: rs.drop (k + 1) := by
    have : rs[k]'hk = r := (List.getElem?_eq_some_iff.1 h).2
    rw [← this, ← List.drop_eq_getElem_cons hk, List.take_append_drop]
  conv => rhs; rw [e]
  rw [List.map_append, List.sum_append, List.map_cons, List.sum_cons]
  omega
theorem tailText_snoc (l : List ByteArray) (x : ByteArray) : tailText (l ++ [x]) = tailText l ++ ([32, 59, 32] ++ x.data.toList) := by simp [tailText]
theorem tailText_take (fs : List ByteArray) (k : Nat) : (tailText (fs.take k)).length ≤ (tailText fs).length := by
  conv => rhs; rw [← List.take_append_drop k fs]
  unfold tailText
  rw [List.flatMap_append, List.length_append]
  omega

set_option maxHeartbeats 1500000 in
set_option maxRecDepth 100000 in
theorem print_any (v : Value) (rs : List RecT) (w : World) (hv : InRecs w v rs) (hn : rs.length ≤ 1048576) (hz : ∀ r ∈ rs, r.2.2.length ≤ 1048576 ∧ ∀ f ∈ r.2.2, f.size ≤ 1048576) (hM : (rs.map recMax).sum ≤ 1099511627776)
    (hd : w.cell? ⟨6, 15, none⟩ = some (.int .u8 4)) (hlt : 6 < w.heap.size) :
    Calls Tryd.prog 20 #[v] w fun e w' => e = .returned (.tuple #[.string (BA (printV rs).1), .int .i64 (printV rs).2]) ∧ Below w.heap.size w w' := by
  obtain ⟨a, c, rfl, hrow⟩ := hv
  have HROW : Hid (0 < rs.length → ∃ b o, a = some ⟨b, o, none⟩ ∧ ∀ (i : Nat) (r : RecT), rs[i]? = some r → RecIn w b (o + i * 3) r) := hrow
  have HN : Hid (∀ i, i < rs.length → ∃ x, rs[i]? = some x ∧ rs.take (i + 1) = rs.take i ++ [x]) := fun i h => ⟨_, List.getElem?_eq_getElem h, by rw [List.take_add_one, List.getElem?_eq_getElem h]; rfl⟩
  have HZ : Hid (∀ r ∈ rs, r.2.2.length ≤ 1048576 ∧ ∀ f ∈ r.2.2, f.size ≤ 1048576) := hz
  have HD : Hid (w.cell? ⟨6, 15, none⟩ = some (.int .u8 4)) := hd
  have HVT : Hid ((∀ r ∈ rs, printB r.1 r.2.1 r.2.2 = true) → printV rs = (rs.flatMap recText, 0)) := fun h => by unfold printV; rw [if_pos (List.all_eq_true.2 h)]
  have HVF : Hid (∀ r ∈ rs, printB r.1 r.2.1 r.2.2 = false → printV rs = ([], 1)) := fun r hr h => by
    unfold printV
    rw [if_neg]
    intro h'
    have := List.all_eq_true.1 h' r hr
    rw [h] at this
    cases this
  have HTX : Hid (∀ k r, rs[k]? = some r → (∀ q ∈ rs.take k, printB q.1 q.2.1 q.2.2 = true) → ((rs.take k).flatMap recText).length + recMax r ≤ 1099511627776) := fun k r h1 h2 => by
    have := text_len (rs.take k) h2
    have := sum_at rs k r h1
    omega
  have BN := Bd.new w
  have BN2 : Hid (Bd (w.alloc (.cells #[.pointer none, .slice none 0 0] 58)) w.heap.size []) := BN
  clear hrow hz hd hM BN
  go_enter Tryd.func20, Tryd.ntmps20
  go_wp2
  go_loopw [11] (fun i wr => ∃ k : Nat, k ≤ rs.length ∧ i = .int .i64 k ∧ Hid (∀ r ∈ rs.take k, printB r.1 r.2.1 r.2.2 = true) ∧ Hid (Bd wr w.heap.size ((rs.take k).flatMap recText)) ∧ Below w.heap.size w wr) (fun i _ => rs.length - (RowKit.intOf i).toNat)
  case atStart => exact ⟨0, Nat.zero_le _, rfl, fun r hr => (by simp at hr), BN2, (Below.refl _ w).alloc (Nat.le_refl _) _⟩
  case round =>
    clear BN2
    obtain ⟨k, hk, rfl, HA, HB, hbel⟩ := hrel
    by_cases hkl : k < rs.length
    · obtain ⟨r, hr, htk⟩ := HN.out k hkl
      obtain ⟨rb, ro, rfl, hrec⟩ := HROW.out (by omega)
      have hkl' : (k : Int) < (rs.length : Int) := by omega
      obtain ⟨p1, p2, fv, p3, hfv⟩ := (hrec k r hr).below hbel (Nat.le_refl _)
      obtain ⟨_, _, fv0, q3, hfv0⟩ := hrec k r hr
      have hfe : fv0 = fv := by
        have := (hbel.cell (p := ⟨rb, ro + k * 3 + 1 + 1, none⟩) (World.block_lt_of_cell? w _ q3)).trans q3
        rw [p3] at this
        cases this
        rfl
      subst hfe
      have hrm := List.mem_of_getElem? hr
      obtain ⟨hz1, hz2⟩ := HZ.out r hrm
      have HTL := HTX.out k r hr HA.out
      have HVR := HVF.out r hrm
      have hBlt := HB.out.lt
      obtain ⟨lo, hi, fs⟩ := r
      simp only [] at p1 p2 p3 hz1 hz2 HVR hfv hfv0
      have PR := fun o => printable_any lo hi fv0 fs (wr.alloc o) (hfv.below ((Below.refl _ wr).alloc (Nat.le_refl _) o) (Nat.le_refl _)) (by omega) (fun f hf => by have := hz2 f hf; omega)
      have HFV0 : Hid (FV w fv0 fs) := hfv0
      have HVR2 : Hid (printB lo hi fs = false → printV rs = ([], 1)) := HVR
      have HTL2 : Hid (((rs.take k).flatMap recText).length + recMax (lo, hi, fs) ≤ 1099511627776) := HTL
      have HTK : Hid (rs.take (k + 1) = rs.take k ++ [(lo, hi, fs)]) := htk
      obtain ⟨fa, fc, rfl, _⟩ := hfv0
      clear hrec q3 hr htk hfv HVR HTL
      generalize hTe : (rs.take k).flatMap recText = T at *
      have HTE : Hid ((rs.take k).flatMap recText = T) := hTe
      clear hTe
      go_wp2_with fail
      refine (PR _).mono ?_
      rintro e w2 ⟨rfl, b2⟩
      clear PR p1 p2 p3
      have hsz0 : (wr.alloc (.cells #[.int .i64 lo, .int .i64 hi, .slice fa fs.length fc] 42)).heap.size = wr.heap.size + 1 := World.size_alloc _ _
      have HBX2 : Hid (w2.heap[wr.heap.size]? = some (.cells #[.int .i64 lo, .int .i64 hi, .slice fa fs.length fc] 42 (0, 0))) := (b2.block _ (by rw [hsz0]; omega)).trans (World.alloc_heap_new wr _)
      have bal := (Below.refl _ wr).alloc (Nat.le_refl _) (.cells #[.int .i64 lo, .int .i64 hi, .slice fa fs.length fc] 42)
      have HB2 : Hid (Bd w2 w.heap.size T) := (HB.out.kept bal).kept b2
      have b02 := (hbel.trans (bal.mono hbel.size)).trans (b2.mono (by rw [hsz0]; have := hbel.size; omega))
      have hszr := hbel.size
      clear HB b2 bal hbel hsz0
      cases hpb : printB lo hi fs with
      | false =>
        have HV : Hid (printV rs = ([], 1)) := HVR2.out hpb
        clear HVR2 HTL2 HTK HTE HA HFV0 HB2 HBX2
        go_wp2
        go_ret2
        exact ⟨by rw [HV.out]; rfl, b02⟩
      | true =>
        obtain ⟨g1, g2, g3, g4⟩ := printB_bounds hpb
        obtain ⟨n1, rfl⟩ : ∃ n1 : Nat, lo = n1 := ⟨lo.toNat, by omega⟩
        obtain ⟨n2, rfl⟩ : ∃ n2 : Nat, hi = n2 := ⟨hi.toNat, by omega⟩
        have hn1 : n1 ≤ 1114111 := by omega
        have hn2 : n2 ≤ 1114111 := by omega
        obtain ⟨fa', fc', hfe, hfr⟩ := HFV0.out
        cases hfe
        obtain ⟨g, og, rfl, hcell⟩ := hfr g4
        have HFC : Hid (∀ (j : Nat) (x : ByteArray), fs[j]? = some x → w.cell? ⟨g, og + j, none⟩ = some (.string x)) := hcell
        have HFN : Hid (∀ i, i < fs.length → ∃ x, fs[i]? = some x ∧ fs.take (i + 1) = fs.take i ++ [x]) := fun i h => ⟨_, List.getElem?_eq_getElem h, by rw [List.take_add_one, List.getElem?_eq_getElem h]; rfl⟩
        have HA2 : Hid (∀ q ∈ rs.take (k + 1), printB q.1 q.2.1 q.2.2 = true) := by
          intro q hq
          rw [HTK.out] at hq
          rcases List.mem_append.1 hq with hq | hq
          · exact HA.out q hq
          · obtain rfl := List.mem_singleton.1 hq
            exact hpb
        have DG : Hid (∀ (W : World) (n : Nat), n ≤ 1114111 → Below w.heap.size w W → Calls Tryd.prog 34 #[.int .i64 n] W fun e w' => e = .returned (.string (BA (pointL n))) ∧ Below W.heap.size W w') := fun W n hn hb =>
          digits_any n W hn ((hb.cell (p := ⟨6, 15, none⟩) hlt).trans HD.out) (by have := hb.size; omega)
        have HTT : Hid (T.length ≤ 1099511627776) := by have := HTL2.out; rw [Hid]; omega
        have hl1 := pointL_len n1 hn1
        have hl2 := pointL_len n2 hn2
        have hbx := HBX2.out
        have e0 := cell_of_row w2 wr.heap.size 0 _ _ _ hbx
        simp at e0
        have D1 := DG.out w2 n1 hn1 b02
        clear hbx hfr hcell HFV0 HA hpb
        go_wp2_with fail
        refine D1.mono ?_
        rintro e w3 ⟨rfl, b3⟩
        clear D1 e0
        have HB3 := HB2.out.kept b3
        have HBX3 : Hid (w3.heap[wr.heap.size]? = some (.cells #[.int .i64 n1, .int .i64 n2, .slice (some ⟨g, og, none⟩) fs.length fc] 42 (0, 0))) := (b3.block _ (Array.getElem?_eq_some_iff.1 HBX2.out).1).trans HBX2.out
        have b03 := b02.trans (b3.mono b02.size)
        have W1 := wstr_any w.heap.size T (BA (pointL n1)) w3 HB3 (by have := HTT.out; rw [BA_size]; omega)
        clear HB2 HBX2 b3 b02 HB3
        go_wp2_with fail
        refine W1.mono ?_
        rintro e w4 ⟨rfl, hB4, b4, k4⟩
        clear W1
        have HB4 : Hid (Bd w4 w.heap.size (T ++ pointL n1)) := hB4
        have HBX4 : Hid (w4.heap[wr.heap.size]? = some (.cells #[.int .i64 n1, .int .i64 n2, .slice (some ⟨g, og, none⟩) fs.length fc] 42 (0, 0))) := k4 _ _ HBX3.out (by simp; omega) (fun c fz h => by cases h)
        have b04 := b03.trans b4
        clear hB4 b4 k4 HBX3 b03
        have hbx := HBX4.out
        have e0 := cell_of_row w4 wr.heap.size 0 _ _ _ hbx
        have e1 := cell_of_row w4 wr.heap.size 1 _ _ _ hbx
        simp at e0 e1
        clear hbx
        by_cases heq : n2 = n1
        · have t1 : ((n2 : Int) != (n1 : Int)) = false := by simp; omega
          have HT5 : Hid ((T ++ pointL n1).length ≤ T.length + 14) := by rw [Hid, List.length_append]; omega
          have HT5E : Hid (T ++ pointL n1 = T ++ headText (n1 : Int) (n2 : Int)) := by
            unfold Hid headText
            rw [if_pos (by omega)]
            simp
          generalize hT5 : T ++ pointL n1 = T5 at *
          clear hT5
          obtain ⟨w5, hw5⟩ : ∃ w5, w5 = w4 := ⟨_, rfl⟩
          subst hw5
          have HB5 := HB4
          have HBX5 := HBX4
          have b05 := b04
          clear HB4 HBX4 b04 HTT
          have hbx := HBX5.out
          have e2 := cell_of_row w5 wr.heap.size 2 _ _ _ hbx
          simp at e2
          clear hbx
          go_wp2
          go_loopw [35] (fun i wq => ∃ j : Nat, j ≤ fs.length ∧ i = .int .i64 j ∧ Hid (Bd wq w.heap.size (T5 ++ tailText (fs.take j))) ∧ Below w.heap.size w wq) (fun i _ => fs.length - (RowKit.intOf i).toNat)
          case atStart => exact ⟨0, Nat.zero_le _, rfl, by rw [Hid, List.take_zero]; show Bd w5 w.heap.size (T5 ++ []); rw [List.append_nil]; exact HB5.out, b05⟩
          case round =>
            clear HB5 HBX5 b05 e2
            obtain ⟨j, hj, rfl, HBq, hbq⟩ := hrel
            have HTQ : Hid ((T5 ++ tailText (fs.take j)).length ≤ 1099511627776) := by
              have h1 := HT5.out
              have h2 := HTL2.out
              have h3 := tailText_take fs j
              unfold recMax at h2
              rw [Hid, List.length_append]
              simp only [] at h2
              omega
            by_cases hjl : j < fs.length
            · obtain ⟨x, hx, hxt⟩ := HFN.out j hjl
              have hjl' : (j : Int) < (fs.length : Int) := by omega
              have hxs := hz2 x (List.mem_of_getElem? hx)
              have hgx : g < w.heap.size := World.block_lt_of_cell? w _ (HFC.out j x hx)
              have cx : wr.cell? ⟨g, og + j, none⟩ = some (.string x) := (hbq.cell (p := ⟨g, og + j, none⟩) hgx).trans (HFC.out j x hx)
              have W1 := wstr_any w.heap.size (T5 ++ tailText (fs.take j)) ⟨#[32, 59, 32]⟩ wr HBq.out (by have := HTQ.out; show _ + 3 ≤ _; omega)
              have HXT : Hid (fs.take (j + 1) = fs.take j ++ [x]) := hxt
              clear hx hxt HBq
              go_wp2_with fail
              refine W1.mono ?_
              rintro e wa ⟨rfl, hBa, ba, ka⟩
              clear W1 cx
              have W2 := wstr_any w.heap.size _ x wa hBa (by have := HTQ.out; rw [List.length_append]; show _ + 3 + _ ≤ _; omega)
              have b0a := hbq.trans ba
              clear hBa ba ka hbq
              go_wp2_with fail
              refine W2.mono ?_
              rintro e wb ⟨rfl, hBb, bb, kb⟩
              clear W2
              have HBb : Hid (Bd wb w.heap.size (T5 ++ tailText (fs.take (j + 1)))) := by
                rw [Hid, HXT.out, tailText_snoc]
                rw [List.append_assoc, List.append_assoc] at hBb
                exact hBb
              have b0b := b0a.trans bb
              clear hBb bb kb b0a
              go_wp2
              go_roundw
              case rel => exact ⟨j + 1, by omega, by go_num, HBb, b0b⟩
              case measure => simp [RowKit.intOf]; omega
            · obtain rfl : j = fs.length := by omega
              rw [List.take_length] at HBq HTQ
              have W3 := wbyte_any w.heap.size (T5 ++ tailText fs) 10 wr HBq.out (by have := HTQ.out; omega)
              have W3' : Calls Tryd.prog 35 #[.pointer (some ⟨w.heap.size, 0, none⟩), .int .u8 10] wr fun e w' => e = .returned .nilIface ∧ Bd w' w.heap.size (T5 ++ tailText fs ++ [10]) ∧ Below w.heap.size wr w' ∧ Lib.OthersKept 5 (some w.heap.size) wr w' := W3
              clear HBq W3
              go_wp2_with fail
              refine W3'.mono ?_
              rintro e wc ⟨rfl, hBc, bc, kc⟩
              clear W3'
              have HBc : Hid (Bd wc w.heap.size ((rs.take (k + 1)).flatMap recText)) := by
                rw [Hid, HTK.out, List.flatMap_append, HTE.out]
                rw [HT5E.out] at hBc
                simpa [recText, List.append_assoc] using hBc
              have b0c := hbq.trans bc
              clear hBc bc kc hbq
              go_wp2
              go_roundw
              case rel => exact ⟨k + 1, by omega, by go_num, HA2, HBc, b0c⟩
              case measure => simp [RowKit.intOf]; omega
        · have t1 : ((n2 : Int) != (n1 : Int)) = true := by simp; omega
          have W2 := wstr_any w.heap.size (T ++ pointL n1) ⟨#[46, 46]⟩ w4 HB4.out (by have := HTT.out; rw [List.length_append]; show _ + 2 ≤ _; omega)
          go_wp2_with fail
          refine W2.mono ?_
          rintro e w4b ⟨rfl, hB4b, b4b, k4b⟩
          clear W2 e0 e1
          have HB4b : Hid (Bd w4b w.heap.size (T ++ pointL n1 ++ [46, 46])) := hB4b
          have HBX4b : Hid (w4b.heap[wr.heap.size]? = some (.cells #[.int .i64 n1, .int .i64 n2, .slice (some ⟨g, og, none⟩) fs.length fc] 42 (0, 0))) := k4b _ _ HBX4.out (by simp; omega) (fun c fz h => by cases h)
          have b04b := b04.trans b4b
          clear hB4b b4b k4b HBX4 b04 HB4
          have hbx := HBX4b.out
          have e1 := cell_of_row w4b wr.heap.size 1 _ _ _ hbx
          simp at e1
          have D2 := DG.out w4b n2 hn2 b04b
          clear hbx
          go_wp2_with fail
          refine D2.mono ?_
          rintro e w4c ⟨rfl, b4c⟩
          clear D2 e1
          have HB4c := HB4b.out.kept b4c
          have HBX4c : Hid (w4c.heap[wr.heap.size]? = some (.cells #[.int .i64 n1, .int .i64 n2, .slice (some ⟨g, og, none⟩) fs.length fc] 42 (0, 0))) := (b4c.block _ (Array.getElem?_eq_some_iff.1 HBX4b.out).1).trans HBX4b.out
          have b04c := b04b.trans (b4c.mono b04b.size)
          have W3 := wstr_any w.heap.size (T ++ pointL n1 ++ [46, 46]) (BA (pointL n2)) w4c HB4c (by have := HTT.out; rw [List.length_append, List.length_append, BA_size]; show _ + 2 + _ ≤ _; omega)
          clear HB4b HBX4b b4c b04b HB4c
          go_wp2_with fail
          refine W3.mono ?_
          rintro e w5 ⟨rfl, hB5, b5, k5⟩
          clear W3
          have HB5' : Hid (Bd w5 w.heap.size (T ++ pointL n1 ++ [46, 46] ++ pointL n2)) := hB5
          have HBX5 : Hid (w5.heap[wr.heap.size]? = some (.cells #[.int .i64 n1, .int .i64 n2, .slice (some ⟨g, og, none⟩) fs.length fc] 42 (0, 0))) := k5 _ _ HBX4c.out (by simp; omega) (fun c fz h => by cases h)
          have b05 := b04c.trans b5
          clear hB5 b5 k5 HBX4c b04c
          have HT5 : Hid ((T ++ pointL n1 ++ [46, 46] ++ pointL n2).length ≤ T.length + 14) := by rw [Hid, List.length_append, List.length_append, List.length_append]; show _ + _ + 2 + _ ≤ _; omega
          have HT5E : Hid (T ++ pointL n1 ++ [46, 46] ++ pointL n2 = T ++ headText (n1 : Int) (n2 : Int)) := by
            unfold Hid headText
            rw [if_neg (by omega)]
            simp
          generalize hT5 : T ++ pointL n1 ++ [46, 46] ++ pointL n2 = T5 at *
          clear hT5
          have HB5 := HB5'
          clear HTT HB5'
          have hbx := HBX5.out
          have e2 := cell_of_row w5 wr.heap.size 2 _ _ _ hbx
          simp at e2
          clear hbx
          go_wp2
          go_loopw [35] (fun i wq => ∃ j : Nat, j ≤ fs.length ∧ i = .int .i64 j ∧ Hid (Bd wq w.heap.size (T5 ++ tailText (fs.take j))) ∧ Below w.heap.size w wq) (fun i _ => fs.length - (RowKit.intOf i).toNat)
          case atStart => exact ⟨0, Nat.zero_le _, rfl, by rw [Hid, List.take_zero]; show Bd w5 w.heap.size (T5 ++ []); rw [List.append_nil]; exact HB5.out, b05⟩
          case round =>
            clear HB5 HBX5 b05 e2
            obtain ⟨j, hj, rfl, HBq, hbq⟩ := hrel
            have HTQ : Hid ((T5 ++ tailText (fs.take j)).length ≤ 1099511627776) := by
              have h1 := HT5.out
              have h2 := HTL2.out
              have h3 := tailText_take fs j
              unfold recMax at h2
              rw [Hid, List.length_append]
              simp only [] at h2
              omega
            by_cases hjl : j < fs.length
            · obtain ⟨x, hx, hxt⟩ := HFN.out j hjl
              have hjl' : (j : Int) < (fs.length : Int) := by omega
              have hxs := hz2 x (List.mem_of_getElem? hx)
              have hgx : g < w.heap.size := World.block_lt_of_cell? w _ (HFC.out j x hx)
              have cx : wr.cell? ⟨g, og + j, none⟩ = some (.string x) := (hbq.cell (p := ⟨g, og + j, none⟩) hgx).trans (HFC.out j x hx)
              have W1 := wstr_any w.heap.size (T5 ++ tailText (fs.take j)) ⟨#[32, 59, 32]⟩ wr HBq.out (by have := HTQ.out; show _ + 3 ≤ _; omega)
              have HXT : Hid (fs.take (j + 1) = fs.take j ++ [x]) := hxt
              clear hx hxt HBq
              go_wp2_with fail
              refine W1.mono ?_
              rintro e wa ⟨rfl, hBa, ba, ka⟩
              clear W1 cx
              have W2 := wstr_any w.heap.size _ x wa hBa (by have := HTQ.out; rw [List.length_append]; show _ + 3 + _ ≤ _; omega)
              have b0a := hbq.trans ba
              clear hBa ba ka hbq
              go_wp2_with fail
              refine W2.mono ?_
              rintro e wb ⟨rfl, hBb, bb, kb⟩
              clear W2
              have HBb : Hid (Bd wb w.heap.size (T5 ++ tailText (fs.take (j + 1)))) := by
                rw [Hid, HXT.out, tailText_snoc]
                rw [List.append_assoc, List.append_assoc] at hBb
                exact hBb
              have b0b := b0a.trans bb
              clear hBb bb kb b0a
              go_wp2
              go_roundw
              case rel => exact ⟨j + 1, by omega, by go_num, HBb, b0b⟩
              case measure => simp [RowKit.intOf]; omega
            · obtain rfl : j = fs.length := by omega
              rw [List.take_length] at HBq HTQ
              have W3 := wbyte_any w.heap.size (T5 ++ tailText fs) 10 wr HBq.out (by have := HTQ.out; omega)
              have W3' : Calls Tryd.prog 35 #[.pointer (some ⟨w.heap.size, 0, none⟩), .int .u8 10] wr fun e w' => e = .returned .nilIface ∧ Bd w' w.heap.size (T5 ++ tailText fs ++ [10]) ∧ Below w.heap.size wr w' ∧ Lib.OthersKept 5 (some w.heap.size) wr w' := W3
              clear HBq W3
              go_wp2_with fail
              refine W3'.mono ?_
              rintro e wc ⟨rfl, hBc, bc, kc⟩
              clear W3'
              have HBc : Hid (Bd wc w.heap.size ((rs.take (k + 1)).flatMap recText)) := by
                rw [Hid, HTK.out, List.flatMap_append, HTE.out]
                rw [HT5E.out] at hBc
                simpa [recText, List.append_assoc] using hBc
              have b0c := hbq.trans bc
              clear hBc bc kc hbq
              go_wp2
              go_roundw
              case rel => exact ⟨k + 1, by omega, by go_num, HA2, HBc, b0c⟩
              case measure => simp [RowKit.intOf]; omega
    · obtain rfl : k = rs.length := by omega
      rw [List.take_length] at HA HB
      have HV : Hid (printV rs = (rs.flatMap recText, 0)) := HVT.out HA.out
      have ST := string_any w.heap.size (rs.flatMap recText) wr HB.out
      clear HB HA
      go_wp2_with fail
      refine ST.mono ?_
      rintro e w9 ⟨rfl, b9⟩
      have b09 := hbel.trans b9
      clear ST
      go_wp2
      go_ret2
      exact ⟨by rw [HV.out]; rfl, b09⟩
end Go.Proofs.YtciblkmbkdhdiaaDoor.lin
