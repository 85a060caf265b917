/- Texts that the proof leans on, one behind the other. -/
import Derived.Test.YtlidgjkipbijlaaGreatDoorBdStb1

section
/- A merge of two parts: slices' symMergeCmpFunc. -/
set_option linter.unusedVariables false
set_option linter.unusedSimpArgs false
namespace Go.Proofs.YtlidgjkipbijlaaGreatDoor.nfd
open Go.Shelf Go.RowKit Go.Lib Go.Sort Go.Proofs

/-- What a merge of at most N elements promises. -/
def SymUpTo (k : Nat) (key : I → Int) (g : Nat) (cb : Array Value) (blk off cap n : Nat) (w0 : World) (N : Nat) : Prop :=
  ∀ (P U V Q : List I) (a m b : Nat) (w : World), U.length + V.length ≤ N → P.length + U.length + V.length + Q.length = n → P.length = a → a + U.length = m → m + V.length = b → 0 < U.length → 0 < V.length → Srt key U → Srt key V → SL k w0 blk off (P ++ (U ++ (V ++ Q))) w →
    Calls Tryz.prog 135 #[.slice (some ⟨blk, off, none⟩) n cap, .int .i64 a, .int .i64 m, .int .i64 b, .func (.func g) #[] cb] w fun e w' => e = .returned (.tuple #[]) ∧ ∃ M, Srt key M ∧ FE key (U ++ V) M ∧ SL k w0 blk off (P ++ (M ++ Q)) w'

set_option maxHeartbeats 16000000 in
set_option maxRecDepth 1000000 in
theorem sym_hi (k : Nat) (HK3 : Hid (k = 3)) (key : I → Int) (cf : I → I → Int) (hcf : ∀ x y, cf x y < 0 ↔ key x < key y) (g : Nat) (cb : Array Value) (blk off cap n a m b N : Nat) (d0 : Array I) (w0 w : World)
    (eg : ∀ args w, (callFunc g args).run Tryz.prog w = .ok (.enter g args) w) (hC : CmpLays Tryz.prog g cb encI k cf blk off n w0) (R : RowK encI k w0 blk off d0) (IH : SymUpTo k key g cb blk off cap n w0 N) (P U V Q : List I) (hN : U.length + V.length ≤ N + 1) (hn : P.length + U.length + V.length + Q.length = n) (hd : d0.size = n) (hsz : n < 4611686018427387904)
    (ha : P.length = a) (hm : a + U.length = m) (hb : m + V.length = b) (hU : 1 < U.length) (hV : 1 < V.length) (sU : Srt key U) (sV : Srt key V) (S : SL k w0 blk off (P ++ (U ++ (V ++ Q))) w) (mid : Nat) (hmid : mid = (a + b) / 2) (hmm : mid < m) :
    Calls Tryz.prog 135 #[.slice (some ⟨blk, off, none⟩) n cap, .int .i64 a, .int .i64 m, .int .i64 b, .func (.func g) #[] cb] w fun e w' => e = .returned (.tuple #[]) ∧ ∃ M, Srt key M ∧ FE key (U ++ V) M ∧ SL k w0 blk off (P ++ (M ++ Q)) w' := by
  have mixed := mixed
  have aE := Tryz.isAgg30
  have zE := size_k k HK3
  obtain ⟨L, hL⟩ : ∃ L, P ++ (U ++ (V ++ Q)) = L := ⟨_, rfl⟩
  have hLn : L.toArray.size = n := by rw [← hL]; simp; omega
  obtain ⟨s0, hs0⟩ : ∃ s0, s0 = mid + m - b := ⟨_, rfl⟩
  obtain ⟨r0, hr0⟩ : ∃ r0, r0 = mid := ⟨_, rfl⟩
  obtain ⟨nn, hnn⟩ : ∃ nn, mid + m = nn := ⟨_, rfl⟩
  have HPT : Hid (∀ s, s0 ≤ s → s ≤ r0 → (s = s0 ∨ key L.toArray[s - 1]! ≤ key L.toArray[nn - s]!) → (s = r0 ∨ key L.toArray[nn - 1 - s]! < key L.toArray[s]!) → ∃ A U2 V1 B, U = A ++ U2 ∧ V = V1 ++ B ∧ a + A.length = s ∧ m + V1.length = nn - s ∧ (∀ v ∈ V1, ∀ u ∈ U2, key v < key u) ∧ ∀ x ∈ A, ∀ y ∈ B, key x ≤ key y) := fun s h1 h2 h3 h4 =>
    by rw [← hnn] at h3 h4 ⊢; exact sym_parts key P U V Q L hL.symm a m b mid s s0 r0 ha hm hb hmid sU sV (.inl ⟨hmm, hs0, hr0⟩) h1 h2 h3 h4
  have HCF : Hid (∀ x y, cf x y < 0 ↔ key x < key y) := hcf
  have HC : Aside _ := hC
  rw [hL] at S
  have S0 : Aside (SWK encI k w0 blk off L.toArray w) := S
  have hma : (((m : Int) - (a : Int)) == 1) = false := beq_eq_false_iff_ne.2 (by omega)
  have hbm : (((b : Int) - (m : Int)) == 1) = false := beq_eq_false_iff_ne.2 (by omega)
  have wma : IntKind.i64.wrap ((m : Int) - (a : Int)) = (m : Int) - (a : Int) := by rw [IntKind.wrap_i64]; omega
  have wbm : IntKind.i64.wrap ((b : Int) - (m : Int)) = (b : Int) - (m : Int) := by rw [IntKind.wrap_i64]; omega
  have wab : IntKind.i64.wrap ((a : Int) + (b : Int)) = (a : Int) + (b : Int) := by rw [IntKind.wrap_i64]; omega
  have wabu : IntKind.u64.wrap ((a : Int) + (b : Int)) = (a : Int) + (b : Int) := by rw [IntKind.wrap_u64]; omega
  have emid : ((a : Int) + (b : Int)) / 2 = (mid : Int) := by omega
  have enn : (mid : Int) + (m : Int) = (nn : Int) := by omega
  have wnn : IntKind.i64.wrap (nn : Int) = (nn : Int) := by rw [IntKind.wrap_i64]; omega
  have wn1 : IntKind.i64.wrap ((nn : Int) - 1) = (nn : Int) - 1 := by rw [IntKind.wrap_i64]; omega
  have hgt : (m : Int) > (mid : Int) := by omega
  have es0 : (nn : Int) - (b : Int) = (s0 : Int) := by omega
  have ws0 : IntKind.i64.wrap (s0 : Int) = (s0 : Int) := by rw [IntKind.wrap_i64]; omega
  have HR0 : Hid (r0 = mid) := hr0
  have HS0 : Hid (s0 + b = nn) := by show _ = _; omega
  have HP : Hid (P.length = a ∧ a + U.length = m ∧ m + V.length = b ∧ P.length + U.length + V.length + Q.length = n ∧ U.length + V.length ≤ N + 1) := ⟨ha, hm, hb, hn, hN⟩
  have HSS : Hid (Srt key U ∧ Srt key V) := ⟨sU, sV⟩
  have HL : Hid (P ++ (U ++ (V ++ Q)) = L) := hL
  have HIH : Hid (SymUpTo k key g cb blk off cap n w0 N) := IH
  have hbn : b ≤ n := by omega
  have ham : a + 1 < m := by omega
  have hmb : m + 1 < b := by omega
  have hsa : a ≤ s0 := by omega
  have hsr : s0 ≤ r0 := by omega
  have hrm : r0 ≤ m := by omega
  have hrd : r0 ≤ mid := by omega
  have hnb : nn ≤ s0 + b := by omega
  have hd1 : a + 1 < mid := by omega
  have hd2 : mid + 1 < b := by omega
  clear S hC hcf sU sV hL ha hm hb hn hN hU hV IH emid wab wabu
  have emid : ((a : Int) + (b : Int)) / 2 = (mid : Int) := by omega
  have wab : IntKind.i64.wrap ((a : Int) + (b : Int)) = (a : Int) + (b : Int) := by rw [IntKind.wrap_i64]; omega
  have wabu : IntKind.u64.wrap ((a : Int) + (b : Int)) = (a : Int) + (b : Int) := by rw [IntKind.wrap_u64]; omega
  have HMD : Hid (mid = (a + b) / 2) := hmid
  have HNN : Hid (mid + m = nn) := hnn
  clear hmid hnn
  go_enter Tryz.func135, Tryz.ntmps135
  clear hs0 hr0
  go_wp2
  go_loopg [20, 21] (r0 - s0) (fun kx s t wr => ∃ (i j : Nat), s = .int .i64 i ∧ t = .int .i64 j ∧ s0 ≤ i ∧ i ≤ j ∧ j ≤ r0 ∧ j - i ≤ kx ∧ Hid (i = s0 ∨ key L.toArray[i - 1]! ≤ key L.toArray[nn - i]!) ∧ Hid (j = r0 ∨ key L.toArray[nn - 1 - j]! < key L.toArray[j]!) ∧ Aside (SWK encI k w0 blk off L.toArray wr))
  case atStart => exact ⟨s0, r0, rfl, by rw [HR0.out], Nat.le_refl _, hsr, Nat.le_refl _, Nat.le_refl _, .inl rfl, .inl rfl, S0⟩
  case round =>
    clear S0
    obtain ⟨i, j, rfl, rfl, hmi, hij, hjb, hkx, HI, HJ, S1⟩ := hrel
    by_cases hlt : i < j
    · have hltz : (i : Int) < (j : Int) := by omega
      obtain ⟨h, hh⟩ : ∃ h, (i + j) / 2 = h := ⟨_, rfl⟩
      have h1 : i ≤ h := by omega
      have h2 : h < j := by omega
      have hu0 : IntKind.i64.wrap ((i : Int) + (j : Int)) = (i : Int) + (j : Int) := by rw [IntKind.wrap_i64]; omega
      have hu : IntKind.u64.wrap ((i : Int) + (j : Int)) = (i : Int) + (j : Int) := by rw [IntKind.wrap_u64]; omega
      have hv : ((i : Int) + (j : Int)) / 2 = (h : Int) := by omega
      have hq0 : nn - 1 - h < n := by omega
      obtain ⟨q, hq⟩ : ∃ q, nn - 1 - h = q := ⟨_, rfl⟩
      have hq1 : (nn : Int) - 1 - (h : Int) = (q : Int) := by have := HNN.out; omega
      rw [hq] at hq0
      have wq : IntKind.i64.wrap (q : Int) = (q : Int) := by rw [IntKind.wrap_i64]; omega
      clear hh
      go_wp2_with fail
      have hhn : (h : Int) < (n : Int) := by omega
      have han : (q : Int) < (n : Int) := by omega
      have h0 : (0 : Int) ≤ (h : Int) := by omega
      have a0 : (0 : Int) ≤ (q : Int) := by omega
      have la := S1.out.ld R (by omega) Tryz.prog h (by omega)
      have lb := S1.out.ld R (by omega) Tryz.prog q (by omega)
      have hc := S1.out.cmp HC.out hLn L.toArray[q]! L.toArray[h]!
      obtain ⟨x, hx⟩ : ∃ x, L.toArray[h]! = x := ⟨_, rfl⟩
      obtain ⟨y, hy⟩ : ∃ y, L.toArray[q]! = y := ⟨_, rfl⟩
      have HX : Hid (L.toArray[h]! = x) := hx
      have HY : Hid (L.toArray[q]! = y) := hy
      have HQ : Hid (nn - 1 - h = q) := hq
      rw [hy] at lb hc
      rw [hx] at la hc
      clear hx hy hq
      by_cases hk : key y < key x
      · have hcv : cf y x < 0 := (HCF.out _ _).2 hk
        have hcd : decide (cf y x < 0) = true := decide_eq_true hcv
        go_quiet_grown (first | (go_at_fn g; refine Calls.grown_of (hc _ _)))
        have S2 : Aside (SWK encI k w0 blk off L.toArray (grow (wr.drewN nq) osq)) := S1.out.grown nq osq
        clear la lb hc S1
        generalize grow (wr.drewN nq) osq = w2 at S2 ⊢
        go_wp2
        go_roundg (h - i)
        case measure => omega
        case rel => exact ⟨i, h, rfl, rfl, hmi, by omega, by omega, Nat.le_refl _, HI, .inr (by rw [HX.out, HQ.out, HY.out]; exact hk), S2⟩
      · have hcv : ¬ cf y x < 0 := fun h => hk ((HCF.out _ _).1 h)
        have hcd : decide (cf y x < 0) = false := decide_eq_false hcv
        go_quiet_grown (first | (go_at_fn g; refine Calls.grown_of (hc _ _)))
        have S2 : Aside (SWK encI k w0 blk off L.toArray (grow (wr.drewN nq) osq)) := S1.out.grown nq osq
        clear la lb hc S1
        generalize grow (wr.drewN nq) osq = w2 at S2 ⊢
        go_wp2
        go_roundg (j - (h + 1))
        case measure => omega
        case rel => exact ⟨h + 1, j, by go_num, rfl, by omega, by omega, hjb, Nat.le_refl _, .inr (by rw [Nat.add_sub_cancel, show nn - (h + 1) = nn - 1 - h by omega, HQ.out, HX.out, HY.out]; omega), HJ, S2⟩
    · have hltz : ¬ (i : Int) < (j : Int) := by omega
      obtain rfl : i = j := by omega
      obtain ⟨A, U2, V1, B, eU, eV, hA, hV1, hlt1, hle2⟩ := HPT.out i hmi hjb HI.out HJ.out
      obtain ⟨q1, q2, q3, q4, q5⟩ := HP.out
      obtain ⟨e, he⟩ : ∃ e, nn - i = e := ⟨_, rfl⟩
      have lU : U.length = A.length + U2.length := by rw [eU, List.length_append]
      have lV : V.length = V1.length + B.length := by rw [eV, List.length_append]
      have hnn := HNN.out
      have hmid := HMD.out
      have sUU : Srt key (A ++ U2) := by rw [← eU]; exact HSS.out.1
      have sVV : Srt key (V1 ++ B) := by rw [← eV]; exact HSS.out.2
      obtain ⟨T1, hT1⟩ : ∃ T1, T1 = P ++ (A ++ (V1 ++ (U2 ++ (B ++ Q)))) := ⟨_, rfl⟩
      have HROT : Hid (∀ W, 0 < U2.length → 0 < V1.length → SL k w0 blk off L W → Calls Tryz.prog 147 #[.slice (some ⟨blk, off, none⟩) n cap, .int .i64 i, .int .i64 m, .int .i64 e, .func (.func g) #[] cb] W fun e w' => e = .returned (.tuple #[]) ∧ SL k w0 blk off T1 w') := fun W c1 c2 hW => by
        have := rotate_any k HK3 (.func (.func g) #[] cb) blk off cap n i m e d0 w0 W R (P ++ A) U2 V1 (B ++ Q) (by simp; omega) hd hsz (by simp; omega) (by omega) (by omega) c1 c2 (by have h := HL.out; rw [eU, eV] at h; simp only [List.append_assoc] at h ⊢; rw [h]; exact hW)
        rw [hT1]
        simpa only [List.append_assoc] using this
      have HROT0 : Hid (∀ W, (U2.length = 0 ∨ V1.length = 0) → SL k w0 blk off L W → SL k w0 blk off T1 W) := fun W c hW => by
        have h := HL.out
        rw [eU, eV] at h
        rw [hT1]
        rcases c with c | c
        · have := List.eq_nil_of_length_eq_zero c; subst this; simp only [List.append_assoc, List.nil_append, List.append_nil] at h ⊢; rw [h]; exact hW
        · have := List.eq_nil_of_length_eq_zero c; subst this; simp only [List.append_assoc, List.nil_append, List.append_nil] at h ⊢; rw [h]; exact hW
      have HLEFT : Hid (∀ W, 0 < A.length → 0 < V1.length → SL k w0 blk off T1 W → Calls Tryz.prog 135 #[.slice (some ⟨blk, off, none⟩) n cap, .int .i64 a, .int .i64 i, .int .i64 mid, .func (.func g) #[] cb] W fun e w' => e = .returned (.tuple #[]) ∧ ∃ M, Srt key M ∧ FE key (A ++ V1) M ∧ SL k w0 blk off (P ++ (M ++ (U2 ++ (B ++ Q)))) w') := fun W c1 c2 hW =>
        HIH.out P A V1 (U2 ++ (B ++ Q)) a i mid W (by omega) (by simp; omega) q1 (by omega) (by omega) c1 c2 (srt_append sUU).1 (srt_append sVV).1 (by rw [← hT1]; exact hW)
      have HLEFT0 : Hid (∀ W, (A.length = 0 ∨ V1.length = 0) → SL k w0 blk off T1 W → ∃ M, Srt key M ∧ FE key (A ++ V1) M ∧ SL k w0 blk off (P ++ (M ++ (U2 ++ (B ++ Q)))) W) := fun W c hW => by
        refine ⟨A ++ V1, ?_, FE.refl _ _, by rw [hT1] at hW; simpa only [List.append_assoc] using hW⟩
        rcases c with c | c
        · have := List.eq_nil_of_length_eq_zero c; subst this; exact (srt_append sVV).1
        · have := List.eq_nil_of_length_eq_zero c; subst this; rw [List.append_nil]; exact (srt_append sUU).1
      have HRIGHT : Hid (∀ W M, FE key (A ++ V1) M → 0 < U2.length → 0 < B.length → SL k w0 blk off (P ++ (M ++ (U2 ++ (B ++ Q)))) W → Calls Tryz.prog 135 #[.slice (some ⟨blk, off, none⟩) n cap, .int .i64 mid, .int .i64 e, .int .i64 b, .func (.func g) #[] cb] W fun e w' => e = .returned (.tuple #[]) ∧ ∃ M2, Srt key M2 ∧ FE key (U2 ++ B) M2 ∧ SL k w0 blk off (P ++ ((M ++ M2) ++ Q)) w') := fun W M hM c1 c2 hW => by
        have hl := hM.len
        have := HIH.out (P ++ M) U2 B Q mid e b W (by omega) (by simp at hl ⊢; omega) (by simp at hl ⊢; omega) (by omega) (by omega) c1 c2 (srt_append sUU).2 (srt_append sVV).2 (by simpa only [List.append_assoc] using hW)
        simpa only [List.append_assoc] using this
      have HRIGHT0 : Hid (∀ W M, (U2.length = 0 ∨ B.length = 0) → SL k w0 blk off (P ++ (M ++ (U2 ++ (B ++ Q)))) W → ∃ M2, Srt key M2 ∧ FE key (U2 ++ B) M2 ∧ SL k w0 blk off (P ++ ((M ++ M2) ++ Q)) W) := fun W M c hW => by
        refine ⟨U2 ++ B, ?_, FE.refl _ _, by simpa only [List.append_assoc] using hW⟩
        rcases c with c | c
        · have := List.eq_nil_of_length_eq_zero c; subst this; exact (srt_append sVV).2
        · have := List.eq_nil_of_length_eq_zero c; subst this; rw [List.append_nil]; exact (srt_append sUU).2
      have HEND : Hid (∀ M M2, Srt key M → FE key (A ++ V1) M → Srt key M2 → FE key (U2 ++ B) M2 → Srt key (M ++ M2) ∧ FE key (U ++ V) (M ++ M2)) := fun M M2 h1 h2 h3 h4 => by
        rw [eU, eV]; exact merge_step key A U2 V1 B M M2 sUU sVV hlt1 hle2 h1 h2 h3 h4
      have n1 : U2.length = m - i := by omega
      have n2 : V1.length = e - m := by omega
      have n3 : A.length = i - a := by omega
      have n4 : B.length = b - e := by omega
      have he1 : m ≤ e := by omega
      have he2 : e ≤ b := by omega
      have he3 : e + i = nn := by omega
      have him : i ≤ m := by omega
      have hid : i ≤ mid := by omega
      have hia : a ≤ i := by omega
      rw [n1, n2] at HROT HROT0
      rw [n2, n3] at HLEFT HLEFT0
      rw [n1, n4] at HRIGHT HRIGHT0
      have ee : (nn : Int) - (i : Int) = (e : Int) := by omega
      have we : IntKind.i64.wrap (e : Int) = (e : Int) := by rw [IntKind.wrap_i64]; omega
      have S3 : Hid (SL k w0 blk off L wr) := S1.out
      clear HPT HI HJ eU eV hA hV1 hlt1 hle2 q1 q2 q3 q4 q5 lU lV hnn hmid sUU sVV hT1 n1 n2 n3 n4 he HL S1 hLn
      generalize A ++ V1 = AV at *
      generalize U2 ++ (B ++ Q) = UBQ at *
      generalize U2 ++ B = UB at *
      have hR := HR0.out
      have hS := HS0.out
      rw [hR] at hjb
      by_cases d1 : i < mid
      · by_cases d2 : a < i
        · by_cases d3 : e < b
          · have hnn := HNN.out
            have cra : (i : Int) < (m : Int) := by omega
            have crb : (m : Int) < (e : Int) := by omega
            have cla : (a : Int) < (i : Int) := by omega
            have clb : (i : Int) < (mid : Int) := by omega
            have cqa : (mid : Int) < (e : Int) := by omega
            have cqb : (e : Int) < (b : Int) := by omega
            clear hnn
            have C := HROT.out wr (by omega) (by omega) S3.out
            clear S3
            go_wp2_with fail
            refine C.mono ?_
            rintro e w1 ⟨rfl, S4⟩
            have S5 : Hid (SL k w0 blk off T1 w1) := S4
            clear C S4
            have C := HLEFT.out w1 (by omega) (by omega) S5.out
            clear S5
            go_wp2_with fail
            refine C.mono ?_
            rintro e w2 ⟨rfl, M, m1, m2, S6⟩
            clear C
            have M1 : Hid (Srt key M) := m1
            have M2 : Hid (FE key AV M) := m2
            have C := HRIGHT.out w2 M m2 (by omega) (by omega) S6
            clear S6 m1 m2
            go_wp2_with fail
            refine C.mono ?_
            rintro e w3 ⟨rfl, N2, m3, m4, S7⟩
            clear C
            have MM : Hid (Srt key (M ++ N2) ∧ FE key (U ++ V) (M ++ N2)) := HEND.out M N2 M1.out M2.out m3 m4
            have S8 : Hid (SL k w0 blk off (P ++ ((M ++ N2) ++ Q)) w3) := S7
            clear S7 m3 m4 HEND
            go_wp2
            go_end0
            exact ⟨rfl, _, MM.out.1, MM.out.2, S8.out⟩
          · have hnn := HNN.out
            have cra : (i : Int) < (m : Int) := by omega
            have crb : (m : Int) < (e : Int) := by omega
            have cla : (a : Int) < (i : Int) := by omega
            have clb : (i : Int) < (mid : Int) := by omega
            have cqa : (mid : Int) < (e : Int) := by omega
            have cqb : ¬ (e : Int) < (b : Int) := by omega
            clear hnn
            have C := HROT.out wr (by omega) (by omega) S3.out
            clear S3
            go_wp2_with fail
            refine C.mono ?_
            rintro e w1 ⟨rfl, S4⟩
            have S5 : Hid (SL k w0 blk off T1 w1) := S4
            clear C S4
            have C := HLEFT.out w1 (by omega) (by omega) S5.out
            clear S5
            go_wp2_with fail
            refine C.mono ?_
            rintro e w2 ⟨rfl, M, m1, m2, S6⟩
            clear C
            have M1 : Hid (Srt key M) := m1
            have M2 : Hid (FE key AV M) := m2
            obtain ⟨N2, m3, m4, S7⟩ := HRIGHT0.out w2 M (by omega) S6
            clear S6 m1 m2
            have MM : Hid (Srt key (M ++ N2) ∧ FE key (U ++ V) (M ++ N2)) := HEND.out M N2 M1.out M2.out m3 m4
            have S8 : Hid (SL k w0 blk off (P ++ ((M ++ N2) ++ Q)) w2) := S7
            clear S7 m3 m4 HEND
            go_wp2
            go_end0
            exact ⟨rfl, _, MM.out.1, MM.out.2, S8.out⟩
        · by_cases d3 : e < b
          · have hnn := HNN.out
            have cra : (i : Int) < (m : Int) := by omega
            have crb : (m : Int) < (e : Int) := by omega
            have cla : ¬ (a : Int) < (i : Int) := by omega
            have cqa : (mid : Int) < (e : Int) := by omega
            have cqb : (e : Int) < (b : Int) := by omega
            clear hnn
            have C := HROT.out wr (by omega) (by omega) S3.out
            clear S3
            go_wp2_with fail
            refine C.mono ?_
            rintro e w1 ⟨rfl, S4⟩
            have S5 : Hid (SL k w0 blk off T1 w1) := S4
            clear C S4
            obtain ⟨M, m1, m2, S6⟩ := HLEFT0.out w1 (by omega) S5.out
            clear S5
            have M1 : Hid (Srt key M) := m1
            have M2 : Hid (FE key AV M) := m2
            have C := HRIGHT.out w1 M m2 (by omega) (by omega) S6
            clear S6 m1 m2
            go_wp2_with fail
            refine C.mono ?_
            rintro e w3 ⟨rfl, N2, m3, m4, S7⟩
            clear C
            have MM : Hid (Srt key (M ++ N2) ∧ FE key (U ++ V) (M ++ N2)) := HEND.out M N2 M1.out M2.out m3 m4
            have S8 : Hid (SL k w0 blk off (P ++ ((M ++ N2) ++ Q)) w3) := S7
            clear S7 m3 m4 HEND
            go_wp2
            go_end0
            exact ⟨rfl, _, MM.out.1, MM.out.2, S8.out⟩
          · have hnn := HNN.out
            have cra : (i : Int) < (m : Int) := by omega
            have crb : (m : Int) < (e : Int) := by omega
            have cla : ¬ (a : Int) < (i : Int) := by omega
            have cqa : (mid : Int) < (e : Int) := by omega
            have cqb : ¬ (e : Int) < (b : Int) := by omega
            clear hnn
            have C := HROT.out wr (by omega) (by omega) S3.out
            clear S3
            go_wp2_with fail
            refine C.mono ?_
            rintro e w1 ⟨rfl, S4⟩
            have S5 : Hid (SL k w0 blk off T1 w1) := S4
            clear C S4
            obtain ⟨M, m1, m2, S6⟩ := HLEFT0.out w1 (by omega) S5.out
            clear S5
            have M1 : Hid (Srt key M) := m1
            have M2 : Hid (FE key AV M) := m2
            obtain ⟨N2, m3, m4, S7⟩ := HRIGHT0.out w1 M (by omega) S6
            clear S6 m1 m2
            have MM : Hid (Srt key (M ++ N2) ∧ FE key (U ++ V) (M ++ N2)) := HEND.out M N2 M1.out M2.out m3 m4
            have S8 : Hid (SL k w0 blk off (P ++ ((M ++ N2) ++ Q)) w1) := S7
            clear S7 m3 m4 HEND
            go_wp2
            go_end0
            exact ⟨rfl, _, MM.out.1, MM.out.2, S8.out⟩
      · have hnn := HNN.out
        have cra : (i : Int) < (m : Int) := by omega
        have crb : ¬ (m : Int) < (e : Int) := by omega
        have cla : (a : Int) < (i : Int) := by omega
        have clb : ¬ (i : Int) < (mid : Int) := by omega
        have cqa : (mid : Int) < (e : Int) := by omega
        have cqb : (e : Int) < (b : Int) := by omega
        clear hnn
        have S5 : Hid (SL k w0 blk off T1 wr) := HROT0.out wr (by omega) S3.out
        clear S3
        obtain ⟨M, m1, m2, S6⟩ := HLEFT0.out wr (by omega) S5.out
        clear S5
        have M1 : Hid (Srt key M) := m1
        have M2 : Hid (FE key AV M) := m2
        have C := HRIGHT.out wr M m2 (by omega) (by omega) S6
        clear S6 m1 m2
        go_wp2_with fail
        refine C.mono ?_
        rintro e w3 ⟨rfl, N2, m3, m4, S7⟩
        clear C
        have MM : Hid (Srt key (M ++ N2) ∧ FE key (U ++ V) (M ++ N2)) := HEND.out M N2 M1.out M2.out m3 m4
        have S8 : Hid (SL k w0 blk off (P ++ ((M ++ N2) ++ Q)) w3) := S7
        clear S7 m3 m4 HEND
        go_wp2
        go_end0
        exact ⟨rfl, _, MM.out.1, MM.out.2, S8.out⟩

set_option maxHeartbeats 16000000 in
set_option maxRecDepth 1000000 in
theorem sym_lo (k : Nat) (HK3 : Hid (k = 3)) (key : I → Int) (cf : I → I → Int) (hcf : ∀ x y, cf x y < 0 ↔ key x < key y) (g : Nat) (cb : Array Value) (blk off cap n a m b N : Nat) (d0 : Array I) (w0 w : World)
    (eg : ∀ args w, (callFunc g args).run Tryz.prog w = .ok (.enter g args) w) (hC : CmpLays Tryz.prog g cb encI k cf blk off n w0) (R : RowK encI k w0 blk off d0) (IH : SymUpTo k key g cb blk off cap n w0 N) (P U V Q : List I) (hN : U.length + V.length ≤ N + 1) (hn : P.length + U.length + V.length + Q.length = n) (hd : d0.size = n) (hsz : n < 4611686018427387904)
    (ha : P.length = a) (hm : a + U.length = m) (hb : m + V.length = b) (hU : 1 < U.length) (hV : 1 < V.length) (sU : Srt key U) (sV : Srt key V) (S : SL k w0 blk off (P ++ (U ++ (V ++ Q))) w) (mid : Nat) (hmid : mid = (a + b) / 2) (hmm : m ≤ mid) :
    Calls Tryz.prog 135 #[.slice (some ⟨blk, off, none⟩) n cap, .int .i64 a, .int .i64 m, .int .i64 b, .func (.func g) #[] cb] w fun e w' => e = .returned (.tuple #[]) ∧ ∃ M, Srt key M ∧ FE key (U ++ V) M ∧ SL k w0 blk off (P ++ (M ++ Q)) w' := by
  have mixed := mixed
  have aE := Tryz.isAgg30
  have zE := size_k k HK3
  obtain ⟨L, hL⟩ : ∃ L, P ++ (U ++ (V ++ Q)) = L := ⟨_, rfl⟩
  have hLn : L.toArray.size = n := by rw [← hL]; simp; omega
  obtain ⟨s0, hs0⟩ : ∃ s0, s0 = a := ⟨_, rfl⟩
  obtain ⟨r0, hr0⟩ : ∃ r0, r0 = m := ⟨_, rfl⟩
  obtain ⟨nn, hnn⟩ : ∃ nn, mid + m = nn := ⟨_, rfl⟩
  have HPT : Hid (∀ s, s0 ≤ s → s ≤ r0 → (s = s0 ∨ key L.toArray[s - 1]! ≤ key L.toArray[nn - s]!) → (s = r0 ∨ key L.toArray[nn - 1 - s]! < key L.toArray[s]!) → ∃ A U2 V1 B, U = A ++ U2 ∧ V = V1 ++ B ∧ a + A.length = s ∧ m + V1.length = nn - s ∧ (∀ v ∈ V1, ∀ u ∈ U2, key v < key u) ∧ ∀ x ∈ A, ∀ y ∈ B, key x ≤ key y) := fun s h1 h2 h3 h4 =>
    by rw [← hnn] at h3 h4 ⊢; exact sym_parts key P U V Q L hL.symm a m b mid s s0 r0 ha hm hb hmid sU sV (.inr ⟨hmm, hs0, hr0⟩) h1 h2 h3 h4
  have HCF : Hid (∀ x y, cf x y < 0 ↔ key x < key y) := hcf
  have HC : Aside _ := hC
  rw [hL] at S
  have S0 : Aside (SWK encI k w0 blk off L.toArray w) := S
  have hma : (((m : Int) - (a : Int)) == 1) = false := beq_eq_false_iff_ne.2 (by omega)
  have hbm : (((b : Int) - (m : Int)) == 1) = false := beq_eq_false_iff_ne.2 (by omega)
  have wma : IntKind.i64.wrap ((m : Int) - (a : Int)) = (m : Int) - (a : Int) := by rw [IntKind.wrap_i64]; omega
  have wbm : IntKind.i64.wrap ((b : Int) - (m : Int)) = (b : Int) - (m : Int) := by rw [IntKind.wrap_i64]; omega
  have wab : IntKind.i64.wrap ((a : Int) + (b : Int)) = (a : Int) + (b : Int) := by rw [IntKind.wrap_i64]; omega
  have wabu : IntKind.u64.wrap ((a : Int) + (b : Int)) = (a : Int) + (b : Int) := by rw [IntKind.wrap_u64]; omega
  have emid : ((a : Int) + (b : Int)) / 2 = (mid : Int) := by omega
  have enn : (mid : Int) + (m : Int) = (nn : Int) := by omega
  have wnn : IntKind.i64.wrap (nn : Int) = (nn : Int) := by rw [IntKind.wrap_i64]; omega
  have wn1 : IntKind.i64.wrap ((nn : Int) - 1) = (nn : Int) - 1 := by rw [IntKind.wrap_i64]; omega
  have hgt : ¬ (m : Int) > (mid : Int) := by omega
  have HR0 : Hid (r0 = m) := hr0
  have HS0 : Hid (s0 = a) := hs0
  have HP : Hid (P.length = a ∧ a + U.length = m ∧ m + V.length = b ∧ P.length + U.length + V.length + Q.length = n ∧ U.length + V.length ≤ N + 1) := ⟨ha, hm, hb, hn, hN⟩
  have HSS : Hid (Srt key U ∧ Srt key V) := ⟨sU, sV⟩
  have HL : Hid (P ++ (U ++ (V ++ Q)) = L) := hL
  have HIH : Hid (SymUpTo k key g cb blk off cap n w0 N) := IH
  have hbn : b ≤ n := by omega
  have ham : a + 1 < m := by omega
  have hmb : m + 1 < b := by omega
  have hsa : a ≤ s0 := by omega
  have hsr : s0 ≤ r0 := by omega
  have hrm : r0 ≤ m := by omega
  have hrd : r0 ≤ mid := by omega
  have hnb : nn ≤ s0 + b := by omega
  have hd1 : a + 1 < mid := by omega
  have hd2 : mid + 1 < b := by omega
  clear S hC hcf sU sV hL ha hm hb hn hN hU hV IH emid wab wabu
  have emid : ((a : Int) + (b : Int)) / 2 = (mid : Int) := by omega
  have wab : IntKind.i64.wrap ((a : Int) + (b : Int)) = (a : Int) + (b : Int) := by rw [IntKind.wrap_i64]; omega
  have wabu : IntKind.u64.wrap ((a : Int) + (b : Int)) = (a : Int) + (b : Int) := by rw [IntKind.wrap_u64]; omega
  have HMD : Hid (mid = (a + b) / 2) := hmid
  have HNN : Hid (mid + m = nn) := hnn
  clear hmid hnn
  go_enter Tryz.func135, Tryz.ntmps135
  clear hs0 hr0
  go_wp2
  go_loopg [20, 21] (r0 - s0) (fun kx s t wr => ∃ (i j : Nat), s = .int .i64 i ∧ t = .int .i64 j ∧ s0 ≤ i ∧ i ≤ j ∧ j ≤ r0 ∧ j - i ≤ kx ∧ Hid (i = s0 ∨ key L.toArray[i - 1]! ≤ key L.toArray[nn - i]!) ∧ Hid (j = r0 ∨ key L.toArray[nn - 1 - j]! < key L.toArray[j]!) ∧ Aside (SWK encI k w0 blk off L.toArray wr))
  case atStart => exact ⟨s0, r0, by rw [HS0.out], by rw [HR0.out], Nat.le_refl _, hsr, Nat.le_refl _, Nat.le_refl _, .inl rfl, .inl rfl, S0⟩
  case round =>
    clear S0
    obtain ⟨i, j, rfl, rfl, hmi, hij, hjb, hkx, HI, HJ, S1⟩ := hrel
    by_cases hlt : i < j
    · have hltz : (i : Int) < (j : Int) := by omega
      obtain ⟨h, hh⟩ : ∃ h, (i + j) / 2 = h := ⟨_, rfl⟩
      have h1 : i ≤ h := by omega
      have h2 : h < j := by omega
      have hu0 : IntKind.i64.wrap ((i : Int) + (j : Int)) = (i : Int) + (j : Int) := by rw [IntKind.wrap_i64]; omega
      have hu : IntKind.u64.wrap ((i : Int) + (j : Int)) = (i : Int) + (j : Int) := by rw [IntKind.wrap_u64]; omega
      have hv : ((i : Int) + (j : Int)) / 2 = (h : Int) := by omega
      have hq0 : nn - 1 - h < n := by omega
      obtain ⟨q, hq⟩ : ∃ q, nn - 1 - h = q := ⟨_, rfl⟩
      have hq1 : (nn : Int) - 1 - (h : Int) = (q : Int) := by have := HNN.out; omega
      rw [hq] at hq0
      have wq : IntKind.i64.wrap (q : Int) = (q : Int) := by rw [IntKind.wrap_i64]; omega
      clear hh
      go_wp2_with fail
      have hhn : (h : Int) < (n : Int) := by omega
      have han : (q : Int) < (n : Int) := by omega
      have h0 : (0 : Int) ≤ (h : Int) := by omega
      have a0 : (0 : Int) ≤ (q : Int) := by omega
      have la := S1.out.ld R (by omega) Tryz.prog h (by omega)
      have lb := S1.out.ld R (by omega) Tryz.prog q (by omega)
      have hc := S1.out.cmp HC.out hLn L.toArray[q]! L.toArray[h]!
      obtain ⟨x, hx⟩ : ∃ x, L.toArray[h]! = x := ⟨_, rfl⟩
      obtain ⟨y, hy⟩ : ∃ y, L.toArray[q]! = y := ⟨_, rfl⟩
      have HX : Hid (L.toArray[h]! = x) := hx
      have HY : Hid (L.toArray[q]! = y) := hy
      have HQ : Hid (nn - 1 - h = q) := hq
      rw [hy] at lb hc
      rw [hx] at la hc
      clear hx hy hq
      by_cases hk : key y < key x
      · have hcv : cf y x < 0 := (HCF.out _ _).2 hk
        have hcd : decide (cf y x < 0) = true := decide_eq_true hcv
        go_quiet_grown (first | (go_at_fn g; refine Calls.grown_of (hc _ _)))
        have S2 : Aside (SWK encI k w0 blk off L.toArray (grow (wr.drewN nq) osq)) := S1.out.grown nq osq
        clear la lb hc S1
        generalize grow (wr.drewN nq) osq = w2 at S2 ⊢
        go_wp2
        go_roundg (h - i)
        case measure => omega
        case rel => exact ⟨i, h, rfl, rfl, hmi, by omega, by omega, Nat.le_refl _, HI, .inr (by rw [HX.out, HQ.out, HY.out]; exact hk), S2⟩
      · have hcv : ¬ cf y x < 0 := fun h => hk ((HCF.out _ _).1 h)
        have hcd : decide (cf y x < 0) = false := decide_eq_false hcv
        go_quiet_grown (first | (go_at_fn g; refine Calls.grown_of (hc _ _)))
        have S2 : Aside (SWK encI k w0 blk off L.toArray (grow (wr.drewN nq) osq)) := S1.out.grown nq osq
        clear la lb hc S1
        generalize grow (wr.drewN nq) osq = w2 at S2 ⊢
        go_wp2
        go_roundg (j - (h + 1))
        case measure => omega
        case rel => exact ⟨h + 1, j, by go_num, rfl, by omega, by omega, hjb, Nat.le_refl _, .inr (by rw [Nat.add_sub_cancel, show nn - (h + 1) = nn - 1 - h by omega, HQ.out, HX.out, HY.out]; omega), HJ, S2⟩
    · have hltz : ¬ (i : Int) < (j : Int) := by omega
      obtain rfl : i = j := by omega
      obtain ⟨A, U2, V1, B, eU, eV, hA, hV1, hlt1, hle2⟩ := HPT.out i hmi hjb HI.out HJ.out
      obtain ⟨q1, q2, q3, q4, q5⟩ := HP.out
      obtain ⟨e, he⟩ : ∃ e, nn - i = e := ⟨_, rfl⟩
      have lU : U.length = A.length + U2.length := by rw [eU, List.length_append]
      have lV : V.length = V1.length + B.length := by rw [eV, List.length_append]
      have hnn := HNN.out
      have hmid := HMD.out
      have sUU : Srt key (A ++ U2) := by rw [← eU]; exact HSS.out.1
      have sVV : Srt key (V1 ++ B) := by rw [← eV]; exact HSS.out.2
      obtain ⟨T1, hT1⟩ : ∃ T1, T1 = P ++ (A ++ (V1 ++ (U2 ++ (B ++ Q)))) := ⟨_, rfl⟩
      have HROT : Hid (∀ W, 0 < U2.length → 0 < V1.length → SL k w0 blk off L W → Calls Tryz.prog 147 #[.slice (some ⟨blk, off, none⟩) n cap, .int .i64 i, .int .i64 m, .int .i64 e, .func (.func g) #[] cb] W fun e w' => e = .returned (.tuple #[]) ∧ SL k w0 blk off T1 w') := fun W c1 c2 hW => by
        have := rotate_any k HK3 (.func (.func g) #[] cb) blk off cap n i m e d0 w0 W R (P ++ A) U2 V1 (B ++ Q) (by simp; omega) hd hsz (by simp; omega) (by omega) (by omega) c1 c2 (by have h := HL.out; rw [eU, eV] at h; simp only [List.append_assoc] at h ⊢; rw [h]; exact hW)
        rw [hT1]
        simpa only [List.append_assoc] using this
      have HROT0 : Hid (∀ W, (U2.length = 0 ∨ V1.length = 0) → SL k w0 blk off L W → SL k w0 blk off T1 W) := fun W c hW => by
        have h := HL.out
        rw [eU, eV] at h
        rw [hT1]
        rcases c with c | c
        · have := List.eq_nil_of_length_eq_zero c; subst this; simp only [List.append_assoc, List.nil_append, List.append_nil] at h ⊢; rw [h]; exact hW
        · have := List.eq_nil_of_length_eq_zero c; subst this; simp only [List.append_assoc, List.nil_append, List.append_nil] at h ⊢; rw [h]; exact hW
      have HLEFT : Hid (∀ W, 0 < A.length → 0 < V1.length → SL k w0 blk off T1 W → Calls Tryz.prog 135 #[.slice (some ⟨blk, off, none⟩) n cap, .int .i64 a, .int .i64 i, .int .i64 mid, .func (.func g) #[] cb] W fun e w' => e = .returned (.tuple #[]) ∧ ∃ M, Srt key M ∧ FE key (A ++ V1) M ∧ SL k w0 blk off (P ++ (M ++ (U2 ++ (B ++ Q)))) w') := fun W c1 c2 hW =>
        HIH.out P A V1 (U2 ++ (B ++ Q)) a i mid W (by omega) (by simp; omega) q1 (by omega) (by omega) c1 c2 (srt_append sUU).1 (srt_append sVV).1 (by rw [← hT1]; exact hW)
      have HLEFT0 : Hid (∀ W, (A.length = 0 ∨ V1.length = 0) → SL k w0 blk off T1 W → ∃ M, Srt key M ∧ FE key (A ++ V1) M ∧ SL k w0 blk off (P ++ (M ++ (U2 ++ (B ++ Q)))) W) := fun W c hW => by
        refine ⟨A ++ V1, ?_, FE.refl _ _, by rw [hT1] at hW; simpa only [List.append_assoc] using hW⟩
        rcases c with c | c
        · have := List.eq_nil_of_length_eq_zero c; subst this; exact (srt_append sVV).1
        · have := List.eq_nil_of_length_eq_zero c; subst this; rw [List.append_nil]; exact (srt_append sUU).1
      have HRIGHT : Hid (∀ W M, FE key (A ++ V1) M → 0 < U2.length → 0 < B.length → SL k w0 blk off (P ++ (M ++ (U2 ++ (B ++ Q)))) W → Calls Tryz.prog 135 #[.slice (some ⟨blk, off, none⟩) n cap, .int .i64 mid, .int .i64 e, .int .i64 b, .func (.func g) #[] cb] W fun e w' => e = .returned (.tuple #[]) ∧ ∃ M2, Srt key M2 ∧ FE key (U2 ++ B) M2 ∧ SL k w0 blk off (P ++ ((M ++ M2) ++ Q)) w') := fun W M hM c1 c2 hW => by
        have hl := hM.len
        have := HIH.out (P ++ M) U2 B Q mid e b W (by omega) (by simp at hl ⊢; omega) (by simp at hl ⊢; omega) (by omega) (by omega) c1 c2 (srt_append sUU).2 (srt_append sVV).2 (by simpa only [List.append_assoc] using hW)
        simpa only [List.append_assoc] using this
      have HRIGHT0 : Hid (∀ W M, (U2.length = 0 ∨ B.length = 0) → SL k w0 blk off (P ++ (M ++ (U2 ++ (B ++ Q)))) W → ∃ M2, Srt key M2 ∧ FE key (U2 ++ B) M2 ∧ SL k w0 blk off (P ++ ((M ++ M2) ++ Q)) W) := fun W M c hW => by
        refine ⟨U2 ++ B, ?_, FE.refl _ _, by simpa only [List.append_assoc] using hW⟩
        rcases c with c | c
        · have := List.eq_nil_of_length_eq_zero c; subst this; exact (srt_append sVV).2
        · have := List.eq_nil_of_length_eq_zero c; subst this; rw [List.append_nil]; exact (srt_append sUU).2
      have HEND : Hid (∀ M M2, Srt key M → FE key (A ++ V1) M → Srt key M2 → FE key (U2 ++ B) M2 → Srt key (M ++ M2) ∧ FE key (U ++ V) (M ++ M2)) := fun M M2 h1 h2 h3 h4 => by
        rw [eU, eV]; exact merge_step key A U2 V1 B M M2 sUU sVV hlt1 hle2 h1 h2 h3 h4
      have n1 : U2.length = m - i := by omega
      have n2 : V1.length = e - m := by omega
      have n3 : A.length = i - a := by omega
      have n4 : B.length = b - e := by omega
      have he1 : m ≤ e := by omega
      have he2 : e ≤ b := by omega
      have he3 : e + i = nn := by omega
      have him : i ≤ m := by omega
      have hid : i ≤ mid := by omega
      have hia : a ≤ i := by omega
      rw [n1, n2] at HROT HROT0
      rw [n2, n3] at HLEFT HLEFT0
      rw [n1, n4] at HRIGHT HRIGHT0
      have ee : (nn : Int) - (i : Int) = (e : Int) := by omega
      have we : IntKind.i64.wrap (e : Int) = (e : Int) := by rw [IntKind.wrap_i64]; omega
      have S3 : Hid (SL k w0 blk off L wr) := S1.out
      clear HPT HI HJ eU eV hA hV1 hlt1 hle2 q1 q2 q3 q4 q5 lU lV hnn hmid sUU sVV hT1 n1 n2 n3 n4 he HL S1 hLn
      generalize A ++ V1 = AV at *
      generalize U2 ++ (B ++ Q) = UBQ at *
      generalize U2 ++ B = UB at *
      have hR := HR0.out
      have hS := HS0.out
      by_cases d1 : i < m
      · by_cases d2 : a < i
        · by_cases d3 : e < b
          · have hnn := HNN.out
            have cra : (i : Int) < (m : Int) := by omega
            have crb : (m : Int) < (e : Int) := by omega
            have cla : (a : Int) < (i : Int) := by omega
            have clb : (i : Int) < (mid : Int) := by omega
            have cqa : (mid : Int) < (e : Int) := by omega
            have cqb : (e : Int) < (b : Int) := by omega
            clear hnn
            have C := HROT.out wr (by omega) (by omega) S3.out
            clear S3
            go_wp2_with fail
            refine C.mono ?_
            rintro e w1 ⟨rfl, S4⟩
            have S5 : Hid (SL k w0 blk off T1 w1) := S4
            clear C S4
            have C := HLEFT.out w1 (by omega) (by omega) S5.out
            clear S5
            go_wp2_with fail
            refine C.mono ?_
            rintro e w2 ⟨rfl, M, m1, m2, S6⟩
            clear C
            have M1 : Hid (Srt key M) := m1
            have M2 : Hid (FE key AV M) := m2
            have C := HRIGHT.out w2 M m2 (by omega) (by omega) S6
            clear S6 m1 m2
            go_wp2_with fail
            refine C.mono ?_
            rintro e w3 ⟨rfl, N2, m3, m4, S7⟩
            clear C
            have MM : Hid (Srt key (M ++ N2) ∧ FE key (U ++ V) (M ++ N2)) := HEND.out M N2 M1.out M2.out m3 m4
            have S8 : Hid (SL k w0 blk off (P ++ ((M ++ N2) ++ Q)) w3) := S7
            clear S7 m3 m4 HEND
            go_wp2
            go_end0
            exact ⟨rfl, _, MM.out.1, MM.out.2, S8.out⟩
          · have hnn := HNN.out
            have cra : (i : Int) < (m : Int) := by omega
            have crb : (m : Int) < (e : Int) := by omega
            have cla : (a : Int) < (i : Int) := by omega
            have clb : (i : Int) < (mid : Int) := by omega
            have cqa : (mid : Int) < (e : Int) := by omega
            have cqb : ¬ (e : Int) < (b : Int) := by omega
            clear hnn
            have C := HROT.out wr (by omega) (by omega) S3.out
            clear S3
            go_wp2_with fail
            refine C.mono ?_
            rintro e w1 ⟨rfl, S4⟩
            have S5 : Hid (SL k w0 blk off T1 w1) := S4
            clear C S4
            have C := HLEFT.out w1 (by omega) (by omega) S5.out
            clear S5
            go_wp2_with fail
            refine C.mono ?_
            rintro e w2 ⟨rfl, M, m1, m2, S6⟩
            clear C
            have M1 : Hid (Srt key M) := m1
            have M2 : Hid (FE key AV M) := m2
            obtain ⟨N2, m3, m4, S7⟩ := HRIGHT0.out w2 M (by omega) S6
            clear S6 m1 m2
            have MM : Hid (Srt key (M ++ N2) ∧ FE key (U ++ V) (M ++ N2)) := HEND.out M N2 M1.out M2.out m3 m4
            have S8 : Hid (SL k w0 blk off (P ++ ((M ++ N2) ++ Q)) w2) := S7
            clear S7 m3 m4 HEND
            go_wp2
            go_end0
            exact ⟨rfl, _, MM.out.1, MM.out.2, S8.out⟩
        · by_cases d3 : e < b
          · have hnn := HNN.out
            have cra : (i : Int) < (m : Int) := by omega
            have crb : (m : Int) < (e : Int) := by omega
            have cla : ¬ (a : Int) < (i : Int) := by omega
            have cqa : (mid : Int) < (e : Int) := by omega
            have cqb : (e : Int) < (b : Int) := by omega
            clear hnn
            have C := HROT.out wr (by omega) (by omega) S3.out
            clear S3
            go_wp2_with fail
            refine C.mono ?_
            rintro e w1 ⟨rfl, S4⟩
            have S5 : Hid (SL k w0 blk off T1 w1) := S4
            clear C S4
            obtain ⟨M, m1, m2, S6⟩ := HLEFT0.out w1 (by omega) S5.out
            clear S5
            have M1 : Hid (Srt key M) := m1
            have M2 : Hid (FE key AV M) := m2
            have C := HRIGHT.out w1 M m2 (by omega) (by omega) S6
            clear S6 m1 m2
            go_wp2_with fail
            refine C.mono ?_
            rintro e w3 ⟨rfl, N2, m3, m4, S7⟩
            clear C
            have MM : Hid (Srt key (M ++ N2) ∧ FE key (U ++ V) (M ++ N2)) := HEND.out M N2 M1.out M2.out m3 m4
            have S8 : Hid (SL k w0 blk off (P ++ ((M ++ N2) ++ Q)) w3) := S7
            clear S7 m3 m4 HEND
            go_wp2
            go_end0
            exact ⟨rfl, _, MM.out.1, MM.out.2, S8.out⟩
          · have hnn := HNN.out
            have cra : (i : Int) < (m : Int) := by omega
            have crb : (m : Int) < (e : Int) := by omega
            have cla : ¬ (a : Int) < (i : Int) := by omega
            have cqa : (mid : Int) < (e : Int) := by omega
            have cqb : ¬ (e : Int) < (b : Int) := by omega
            clear hnn
            have C := HROT.out wr (by omega) (by omega) S3.out
            clear S3
            go_wp2_with fail
            refine C.mono ?_
            rintro e w1 ⟨rfl, S4⟩
            have S5 : Hid (SL k w0 blk off T1 w1) := S4
            clear C S4
            obtain ⟨M, m1, m2, S6⟩ := HLEFT0.out w1 (by omega) S5.out
            clear S5
            have M1 : Hid (Srt key M) := m1
            have M2 : Hid (FE key AV M) := m2
            obtain ⟨N2, m3, m4, S7⟩ := HRIGHT0.out w1 M (by omega) S6
            clear S6 m1 m2
            have MM : Hid (Srt key (M ++ N2) ∧ FE key (U ++ V) (M ++ N2)) := HEND.out M N2 M1.out M2.out m3 m4
            have S8 : Hid (SL k w0 blk off (P ++ ((M ++ N2) ++ Q)) w1) := S7
            clear S7 m3 m4 HEND
            go_wp2
            go_end0
            exact ⟨rfl, _, MM.out.1, MM.out.2, S8.out⟩
      · by_cases d2 : i < mid
        · have hnn := HNN.out
          have cra : ¬ (i : Int) < (m : Int) := by omega
          have cla : (a : Int) < (i : Int) := by omega
          have clb : (i : Int) < (mid : Int) := by omega
          have cqa : ¬ (mid : Int) < (e : Int) := by omega
          clear hnn
          have S5 : Hid (SL k w0 blk off T1 wr) := HROT0.out wr (by omega) S3.out
          clear S3
          have C := HLEFT.out wr (by omega) (by omega) S5.out
          clear S5
          go_wp2_with fail
          refine C.mono ?_
          rintro e w2 ⟨rfl, M, m1, m2, S6⟩
          clear C
          have M1 : Hid (Srt key M) := m1
          have M2 : Hid (FE key AV M) := m2
          obtain ⟨N2, m3, m4, S7⟩ := HRIGHT0.out w2 M (by omega) S6
          clear S6 m1 m2
          have MM : Hid (Srt key (M ++ N2) ∧ FE key (U ++ V) (M ++ N2)) := HEND.out M N2 M1.out M2.out m3 m4
          have S8 : Hid (SL k w0 blk off (P ++ ((M ++ N2) ++ Q)) w2) := S7
          clear S7 m3 m4 HEND
          go_wp2
          go_end0
          exact ⟨rfl, _, MM.out.1, MM.out.2, S8.out⟩
        · have hnn := HNN.out
          have cra : ¬ (i : Int) < (m : Int) := by omega
          have cla : (a : Int) < (i : Int) := by omega
          have clb : ¬ (i : Int) < (mid : Int) := by omega
          have cqa : ¬ (mid : Int) < (e : Int) := by omega
          clear hnn
          have S5 : Hid (SL k w0 blk off T1 wr) := HROT0.out wr (by omega) S3.out
          clear S3
          obtain ⟨M, m1, m2, S6⟩ := HLEFT0.out wr (by omega) S5.out
          clear S5
          have M1 : Hid (Srt key M) := m1
          have M2 : Hid (FE key AV M) := m2
          obtain ⟨N2, m3, m4, S7⟩ := HRIGHT0.out wr M (by omega) S6
          clear S6 m1 m2
          have MM : Hid (Srt key (M ++ N2) ∧ FE key (U ++ V) (M ++ N2)) := HEND.out M N2 M1.out M2.out m3 m4
          have S8 : Hid (SL k w0 blk off (P ++ ((M ++ N2) ++ Q)) wr) := S7
          clear S7 m3 m4 HEND
          go_wp2
          go_end0
          exact ⟨rfl, _, MM.out.1, MM.out.2, S8.out⟩

theorem sym_any (k : Nat) (HK3 : Hid (k = 3)) (key : I → Int) (cf : I → I → Int) (hcf : ∀ x y, cf x y < 0 ↔ key x < key y) (g : Nat) (cb : Array Value) (blk off cap n : Nat) (d0 : Array I) (w0 : World)
    (eg : ∀ args w, (callFunc g args).run Tryz.prog w = .ok (.enter g args) w) (hC : CmpLays Tryz.prog g cb encI k cf blk off n w0) (R : RowK encI k w0 blk off d0) (hd : d0.size = n) (hsz : n < 4611686018427387904) : ∀ N, SymUpTo k key g cb blk off cap n w0 N := by
  intro N
  induction N with
  | zero => intro P U V Q a m b w hN hn ha hm hb hU hV; omega
  | succ N ih =>
    intro P U V Q a m b w hN hn ha hm hb hU hV sU sV S
    by_cases h1 : U.length = 1
    · obtain ⟨x, rfl⟩ := List.length_eq_one_iff.1 h1
      have := sym_one k HK3 key cf hcf g cb blk off cap n a m b d0 w0 w eg hC R P V Q x (by simp at hn; omega) hd hsz ha (by simp at hm; omega) hb hV sV S
      exact this
    · by_cases h2 : V.length = 1
      · obtain ⟨y, rfl⟩ := List.length_eq_one_iff.1 h2
        have := sym_last k HK3 key cf hcf g cb blk off cap n a m b d0 w0 w eg hC R P U Q y (by simp at hn; omega) hd hsz ha hm (by simp at hb; omega) (by omega) sU S
        exact this
      · by_cases h3 : (a + b) / 2 < m
        · exact sym_hi k HK3 key cf hcf g cb blk off cap n a m b N d0 w0 w eg hC R ih P U V Q hN hn hd hsz ha hm hb (by omega) (by omega) sU sV S _ rfl h3
        · exact sym_lo k HK3 key cf hcf g cb blk off cap n a m b N d0 w0 w eg hC R ih P U V Q hN hn hd hsz ha hm hb (by omega) (by omega) sU sV S _ rfl (by omega)
end Go.Proofs.YtlidgjkipbijlaaGreatDoor.nfd
end
