/- Texts that the proof leans on, one behind the other. -/
import Derived.Test.YtlidgjkipbijlaaGreatDoorBdStb1
import Derived.Test.YtlidgjkipbijlaaGreatDoorBdStb2
import Derived.Test.YtlidgjkipbijlaaGreatDoorBdNfd1

section
/- Blocks of a list that are sorted, merged two by two. -/
set_option linter.unusedVariables false
set_option linter.unusedSimpArgs false
namespace Go.Proofs.YtlidgjkipbijlaaGreatDoor.nfd
open Go.Sort Go.Proofs

/-- Up to a, blocks of 20 are sorted. -/
def Inv0 {α : Type} (key : α → Int) (n : Nat) (L : List α) (a : Nat) (M : List α) : Prop := M.length = n ∧ FE key L M ∧ ∀ c, c * 20 + 20 ≤ a → Seg key M (c * 20) (c * 20 + 20)
/-- Blocks of s are sorted. -/
def Inv1 {α : Type} (key : α → Int) (n : Nat) (L : List α) (s : Nat) (M : List α) : Prop := M.length = n ∧ FE key L M ∧ ∀ c, Seg key M (c * s) (c * s + s)
/-- Ahead of a blocks of twice s are sorted, behind it blocks of s. -/
def Inv2 {α : Type} (key : α → Int) (n : Nat) (L : List α) (s q a : Nat) (M : List α) : Prop := M.length = n ∧ FE key L M ∧ a = q * (2 * s) ∧ (∀ c, c < q → Seg key M (c * (2 * s)) (c * (2 * s) + 2 * s)) ∧ ∀ c, Seg key M (a + c * s) (a + c * s + s)
theorem inv0_start {α : Type} (key : α → Int) (L : List α) : Inv0 key L.length L 0 L := ⟨rfl, FE.refl _ _, fun c h => by omega⟩
theorem inv0_step {α : Type} {key : α → Int} {n a q : Nat} {L M : List α} (h : Inv0 key n L a M) (ha : a = q * 20) (hb : a + 20 ≤ n) : ∃ P S Q, M = P ++ (S ++ Q) ∧ P.length = a ∧ P.length + S.length = a + 20 ∧ ∀ T, Srt key T → FE key S T → Inv0 key n L (a + 20) (P ++ (T ++ Q)) := by
  obtain ⟨h1, h2, h3⟩ := h
  obtain ⟨P, S, Q, rfl, hP, hS⟩ := parts3 M a (a + 20) (by omega) (by omega)
  refine ⟨P, S, Q, rfl, hP, by omega, fun T hT fT => ⟨?_, h2.trans fT.mid, fun c hc => ?_⟩⟩
  · have := fT.len; simp only [List.length_append] at h1 ⊢; omega
  · rcases Nat.lt_or_ge a (c * 20 + 20) with h | h
    · exact seg_srt hT _ _ (by omega) (by have := fT.len; omega)
    · exact seg_kept (fT.len.symm) _ _ (.inl (by omega)) (h3 c h)
theorem inv0_last {α : Type} {key : α → Int} {n a q : Nat} {L M : List α} (h : Inv0 key n L a M) (ha : a = q * 20) (h0 : a ≤ n) (hb : n < a + 20) : ∃ P S, M = P ++ (S ++ []) ∧ P.length = a ∧ P.length + S.length = n ∧ ∀ T, Srt key T → FE key S T → Inv1 key n L 20 (P ++ (T ++ [])) := by
  obtain ⟨h1, h2, h3⟩ := h
  obtain ⟨P, S, Q, rfl, hP, hS⟩ := parts3 M a n h0 (by omega)
  obtain rfl : Q = [] := List.eq_nil_of_length_eq_zero (by simp only [List.length_append] at h1; omega)
  refine ⟨P, S, rfl, hP, by omega, fun T hT fT => ⟨?_, h2.trans fT.mid, fun c => ?_⟩⟩
  · have := fT.len; simp only [List.length_append] at h1 ⊢; omega
  · rcases Nat.lt_or_ge a (c * 20 + 20) with h | h
    · rcases Nat.lt_or_ge a (c * 20) with h' | h'
      · refine seg_past ?_
        have := fT.len
        simp only [List.length_append, List.length_nil] at h1 ⊢
        omega
      · have hs : Seg key (P ++ (T ++ [])) (c * 20) n := seg_srt hT _ _ (by omega) (by have := fT.len; omega)
        intro i j x y i1 i2 i3 hx hy
        refine hs i j x y i1 i2 ?_ hx hy
        have := (List.getElem?_eq_some_iff.1 hy).1
        have := fT.len
        simp only [List.length_append, List.length_nil] at *
        omega
    · exact seg_kept (fT.len.symm) _ _ (.inl (by omega)) (h3 c h)
theorem inv1_start {α : Type} {key : α → Int} {n s : Nat} {L M : List α} (h : Inv1 key n L s M) : Inv2 key n L s 0 0 M := ⟨h.1, h.2.1, by omega, fun c hc => by omega, fun c => by have := h.2.2 c; rwa [Nat.zero_add]⟩
theorem inv1_end {α : Type} {key : α → Int} {n s : Nat} {L M : List α} (h : Inv1 key n L s M) (hs : n ≤ s) : Srt key M ∧ FE key L M := ⟨seg_all (b := s) (by rw [h.1]; exact hs) (by have := h.2.2 0; simpa using this), h.2.1⟩
theorem inv2_step {α : Type} {key : α → Int} {n s q a : Nat} {L M : List α} (h : Inv2 key n L s q a M) (hb : a + 2 * s ≤ n) : ∃ P U V Q, M = P ++ (U ++ (V ++ Q)) ∧ P.length = a ∧ U.length = s ∧ V.length = s ∧ P.length + U.length + V.length + Q.length = n ∧ Srt key U ∧ Srt key V ∧ ∀ T, Srt key T → FE key (U ++ V) T → Inv2 key n L s (q + 1) (a + 2 * s) (P ++ (T ++ Q)) := by
  obtain ⟨h1, h2, h3, h4, h5⟩ := h
  obtain ⟨P, S, Q, rfl, hP, hS⟩ := parts3 M a (a + 2 * s) (by omega) (by omega)
  have hUV : (S.take s).length = s := by simp; omega
  have hVV : (S.drop s).length = s := by simp; omega
  have eS : S.take s ++ S.drop s = S := List.take_append_drop s S
  refine ⟨P, S.take s, S.drop s, Q, by rw [← List.append_assoc (S.take s), eS], hP, hUV, hVV, by simp only [List.length_append] at h1; omega, ?_, ?_, fun T hT fT => ?_⟩
  · have := h5 0
    rw [Nat.zero_mul, Nat.add_zero] at this
    rw [← eS, List.append_assoc] at this
    exact srt_seg _ _ (by omega) (by omega) this
  · have := h5 1
    rw [Nat.one_mul] at this
    rw [← eS, List.append_assoc, ← List.append_assoc P] at this
    exact srt_seg _ _ (by simp; omega) (by simp only [List.length_append]; omega) this
  · rw [eS] at fT
    have hl := fT.len
    refine ⟨by simp only [List.length_append] at h1 ⊢; omega, h2.trans fT.mid, by rw [h3, Nat.add_mul, Nat.one_mul], fun c hc => ?_, fun c => ?_⟩
    · rcases Nat.lt_or_ge c q with hcq | hcq
      · have : (c + 1) * (2 * s) ≤ q * (2 * s) := Nat.mul_le_mul_right _ hcq
        rw [Nat.add_mul, Nat.one_mul] at this
        exact seg_kept hl.symm _ _ (.inl (by omega)) (h4 c hcq)
      · obtain rfl : c = q := by omega
        exact seg_srt hT _ _ (by omega) (by omega)
    · have := h5 (c + 2)
      rw [Nat.add_mul] at this
      rw [show a + 2 * s + c * s = a + (c * s + 2 * s) by omega]
      exact seg_kept hl.symm _ _ (.inr (by omega)) this
theorem inv2_done {α : Type} {key : α → Int} {n s q a : Nat} {L M : List α} (h : Inv2 key n L s q a M) (hb : n ≤ a + s) : Inv1 key n L (2 * s) M := by
  obtain ⟨h1, h2, h3, h4, h5⟩ := h
  refine ⟨h1, h2, fun c => ?_⟩
  rcases Nat.lt_or_ge c q with hc | hc
  · exact h4 c hc
  · have : q * (2 * s) ≤ c * (2 * s) := Nat.mul_le_mul_right _ hc
    have h0 := h5 0
    rw [Nat.zero_mul, Nat.add_zero] at h0
    intro i j x y i1 i2 i3 hx hy
    have := (List.getElem?_eq_some_iff.1 hy).1
    exact h0 i j x y (by omega) i2 (by omega) hx hy
theorem inv2_tail {α : Type} {key : α → Int} {n s q a : Nat} {L M : List α} (h : Inv2 key n L s q a M) (h0 : a + s < n) (hb : n < a + 2 * s) : ∃ P U V, M = P ++ (U ++ (V ++ [])) ∧ P.length = a ∧ U.length = s ∧ a + s + V.length = n ∧ Srt key U ∧ Srt key V ∧ ∀ T, Srt key T → FE key (U ++ V) T → Inv1 key n L (2 * s) (P ++ (T ++ [])) := by
  obtain ⟨h1, h2, h3, h4, h5⟩ := h
  obtain ⟨P, S, Q, rfl, hP, hS⟩ := parts3 M a n (by omega) (by omega)
  obtain rfl : Q = [] := List.eq_nil_of_length_eq_zero (by simp only [List.length_append] at h1; omega)
  have hUV : (S.take s).length = s := by simp; omega
  have hVV : (S.drop s).length = n - a - s := by simp; omega
  have eS : S.take s ++ S.drop s = S := List.take_append_drop s S
  refine ⟨P, S.take s, S.drop s, by rw [← List.append_assoc (S.take s), eS], hP, hUV, by omega, ?_, ?_, fun T hT fT => ?_⟩
  · have := h5 0
    rw [Nat.zero_mul, Nat.add_zero] at this
    rw [← eS, List.append_assoc] at this
    exact srt_seg _ _ (by omega) (by omega) this
  · have := h5 1
    rw [Nat.one_mul] at this
    rw [← eS, List.append_assoc, ← List.append_assoc P] at this
    exact srt_seg _ _ (by simp; omega) (by simp only [List.length_append]; omega) this
  · rw [eS] at fT
    have hl := fT.len
    refine ⟨by simp only [List.length_append] at h1 ⊢; omega, h2.trans fT.mid, fun c => ?_⟩
    rcases Nat.lt_or_ge c q with hcq | hcq
    · have : (c + 1) * (2 * s) ≤ q * (2 * s) := Nat.mul_le_mul_right _ hcq
      rw [Nat.add_mul, Nat.one_mul] at this
      exact seg_kept hl.symm _ _ (.inl (by omega)) (h4 c hcq)
    · have : q * (2 * s) ≤ c * (2 * s) := Nat.mul_le_mul_right _ hcq
      have hs : Seg key (P ++ (T ++ [])) (c * (2 * s)) n := seg_srt hT _ _ (by omega) (by omega)
      intro i j x y i1 i2 i3 hx hy
      refine hs i j x y i1 i2 ?_ hx hy
      have := (List.getElem?_eq_some_iff.1 hy).1
      simp only [List.length_append, List.length_nil] at *
      omega
end Go.Proofs.YtlidgjkipbijlaaGreatDoor.nfd
end

section
/- slices.SortStableFunc over items: sorted by their keys, those of one key as they stood. -/
set_option linter.unusedVariables false
set_option linter.unusedSimpArgs false
namespace Go.Proofs.YtlidgjkipbijlaaGreatDoor.nfd
open Go.Shelf Go.RowKit Go.Lib Go.Sort Go.Proofs

theorem cmp_on {P : Program} {g : Nat} {cb : Array Value} {k : Nat} {cf : I → I → Int} {blk off size : Nat} {w0 W : World} {dk : Array I} (h : CmpLays P g cb encI k cf blk off size w0) (hblk : blk < w0.heap.size) (S : SWK encI k w0 blk off dk W) (hs : dk.size = size) : CmpLays P g cb encI k cf blk off size W := fun m os dk' hs' x y => by
  obtain ⟨n, os0, rfl⟩ := S
  rw [sortWorldK_on encI k w0 blk off n m dk dk' os0 os hblk (by omega)]
  exact h _ _ dk' hs' x y
theorem insertion_any (k : Nat) (HK3 : Hid (k = 3)) (key : I → Int) (cf : I → I → Int) (hcf : ∀ x y, cf x y < 0 ↔ key x < key y) (g : Nat) (cb : Array Value) (blk off cap n a b : Nat) (d0 : Array I) (w0 w : World)
    (eg : ∀ args w, (callFunc g args).run Tryz.prog w = .ok (.enter g args) w) (hC : CmpLays Tryz.prog g cb encI k cf blk off n w0) (R : RowK encI k w0 blk off d0) (P S Q : List I) (hn : P.length + S.length + Q.length = n) (hd : d0.size = n) (hsz : n < 4611686018427387904)
    (ha : P.length = a) (hb : P.length + S.length = b) (hS : SL k w0 blk off (P ++ (S ++ Q)) w) :
    Calls Tryz.prog 134 #[.slice (some ⟨blk, off, none⟩) n cap, .int .i64 a, .int .i64 b, .func (.func g) #[] cb] w fun e w' => e = .returned (.tuple #[]) ∧ ∃ T, Srt key T ∧ FE key S T ∧ SL k w0 blk off (P ++ (T ++ Q)) w' := by
  have hsz' : (P ++ (S ++ Q)).toArray.size = n := by simp; omega
  have hH := hS.holds R.hblk R.hH (by omega)
  have C := AnyQ.insertionSortCmpFunc Tryz.insR k Tryz.isAgg30 (size_k k HK3) encI (fun x => HK3.out ▸ encI_len x) encI_one cf g cb blk off cap a b (P ++ (S ++ Q)).toArray w eg (by rw [hsz']; exact cmp_on hC R.hblk hS (by omega)) hH (hS.lt R.hblk) (by omega) (by omega) (by omega)
  change Calls Tryz.prog 134 _ _ _ at C
  rw [hsz'] at C
  refine C.mono ?_
  rintro e w' ⟨rfl, n', os, rfl⟩
  have hi := ins_sort key (ltOf cf) (fun x y => by unfold ltOf; exact decide_eq_decide.2 (hcf x y)) P S Q a b ha.symm hb.symm
  rw [hi]
  have hk := srtR_ok key S
  refine ⟨rfl, _, hk.1, hk.2, hS.on R.hblk _ _ _ ?_⟩
  have := srtR_len key S
  simp
  omega
set_option maxHeartbeats 8000000 in
set_option maxRecDepth 1000000 in
theorem stable_any (k : Nat) (HK3 : Hid (k = 3)) (key : I → Int) (cf : I → I → Int) (hcf : ∀ x y, cf x y < 0 ↔ key x < key y) (g : Nat) (cb : Array Value) (blk off cap n : Nat) (d0 : Array I) (w0 w : World)
    (eg : ∀ args w, (callFunc g args).run Tryz.prog w = .ok (.enter g args) w) (hC : CmpLays Tryz.prog g cb encI k cf blk off n w0) (R : RowK encI k w0 blk off d0) (L : List I) (hn : L.length = n) (hd : d0.size = n) (hsz : n < 1000000000000)
    (hS : SL k w0 blk off L w) :
    Calls Tryz.prog 115 #[.slice (some ⟨blk, off, none⟩) n cap, .int .i64 n, .func (.func g) #[] cb] w fun e w' => e = .returned (.tuple #[]) ∧ ∃ M, Srt key M ∧ FE key L M ∧ SL k w0 blk off M w' := by
  have HINS : Hid (∀ (P S Q : List I) (a b : Nat) (w : World), P.length + S.length + Q.length = n → P.length = a → P.length + S.length = b → SL k w0 blk off (P ++ (S ++ Q)) w →
    Calls Tryz.prog 134 #[.slice (some ⟨blk, off, none⟩) n cap, .int .i64 a, .int .i64 b, .func (.func g) #[] cb] w fun e w' => e = .returned (.tuple #[]) ∧ ∃ T, Srt key T ∧ FE key S T ∧ SL k w0 blk off (P ++ (T ++ Q)) w') :=
    fun P S Q a b w h1 h2 h3 h4 => insertion_any k HK3 key cf hcf g cb blk off cap n a b d0 w0 w eg hC R P S Q h1 hd (by omega) h2 h3 h4
  have HSYM : Hid (SymUpTo k key g cb blk off cap n w0 n) := sym_any k HK3 key cf hcf g cb blk off cap n d0 w0 eg hC R hd (by omega) n
  have H0 : Hid (∃ M, Inv0 key n L 0 M ∧ SL k w0 blk off M w) := ⟨L, by rw [← hn]; exact inv0_start key L, hS⟩
  clear hS hC R hcf hn hd eg
  go_enter Tryz.func115, Tryz.ntmps115
  go_wp2
  go_loopg [7, 8] n (fun kx s t wr => ∃ (q a b : Nat), s = .int .i64 a ∧ t = .int .i64 b ∧ Hid (a = q * 20 ∧ b = a + 20) ∧ a ≤ n ∧ n - a ≤ kx ∧ Hid (∃ M, Inv0 key n L a M ∧ SL k w0 blk off M wr))
  case atStart => exact ⟨0, 0, 20, rfl, rfl, ⟨rfl, rfl⟩, Nat.zero_le _, by omega, H0⟩
  case round =>
    clear H0
    obtain ⟨q, a, b, rfl, rfl, HAB, han, hkx, HI⟩ := hrel
    obtain ⟨M, hI, hS1⟩ := HI.out
    have haq := HAB.out.1
    have hba := HAB.out.2
    by_cases hlt : b ≤ n
    · have hltz : (b : Int) ≤ (n : Int) := by omega
      obtain ⟨P, S, Q, rfl, hP, hPS, hnx⟩ := inv0_step hI haq (by omega)
      have hl := hI.1
      have C := HINS.out P S Q a b wr (by simp only [List.length_append] at hl; omega) hP (by omega) hS1
      have HN : Hid (∀ T, Srt key T → FE key S T → Inv0 key n L b (P ++ (T ++ Q))) := fun T h1 h2 => by rw [hba]; exact hnx T h1 h2
      clear hI hS1 hnx hl hP hPS HI
      have hb0 : a < b := by omega
      clear haq hba
      have wb : IntKind.i64.wrap ((b : Int) + 20) = (b : Int) + 20 := by rw [IntKind.wrap_i64]; omega
      go_wp2_with fail
      refine C.mono ?_
      rintro e w1 ⟨rfl, T, hT1, hT2, hS2⟩
      have HS2 : Hid (∃ M, Inv0 key n L b M ∧ SL k w0 blk off M w1) := ⟨_, HN.out T hT1 hT2, hS2⟩
      clear C HN hT1 hT2 hS2
      go_wp2
      go_roundg (n - b)
      case measure => omega
      case rel => exact ⟨q + 1, b, b + 20, rfl, by first | rfl | go_num | (congr 1), ⟨by have := HAB.out; omega, rfl⟩, hlt, Nat.le_refl _, HS2⟩
    · have hltz : ¬ (b : Int) ≤ (n : Int) := by omega
      obtain ⟨P, S, rfl, hP, hPS, hnx⟩ := inv0_last hI haq han (by omega)
      have hl := hI.1
      have C := HINS.out P S [] a n wr (by simp; omega) hP hPS hS1
      have HN : Hid (∀ T, Srt key T → FE key S T → Inv1 key n L 20 (P ++ (T ++ []))) := hnx
      clear hI hS1 hnx hl hP hPS HI haq hba
      go_wp2_with fail
      refine C.mono ?_
      rintro e w1 ⟨rfl, T, hT1, hT2, hS2⟩
      have HS2 : Hid (∃ M, Inv1 key n L 20 M ∧ SL k w0 blk off M w1) := ⟨_, HN.out T hT1 hT2, hS2⟩
      clear C HN hT1 hT2 hS2 hkx hlt hltz han HAB
      go_wp2
      go_loopg [6] n (fun kx s wr => ∃ (bs : Nat), s = .int .i64 bs ∧ 20 ≤ bs ∧ bs ≤ 2 * n + 20 ∧ n - bs ≤ kx ∧ Hid (∃ M, Inv1 key n L bs M ∧ SL k w0 blk off M wr))
      case atStart => exact ⟨20, rfl, Nat.le_refl _, by omega, by omega, HS2⟩
      case round =>
        clear HS2
        obtain ⟨bs, rfl, hb1, hb2, hkx, HI⟩ := hrel
        by_cases hlt : bs < n
        · have hltz : (bs : Int) < (n : Int) := by omega
          have HI2 : Hid (∃ M, Inv2 key n L bs 0 0 M ∧ SL k w0 blk off M wr) := by
            obtain ⟨M, h1, h2⟩ := HI.out
            exact ⟨M, inv1_start h1, h2⟩
          obtain ⟨t, ht⟩ : ∃ t, 2 * bs = t := ⟨_, rfl⟩
          have e1 : (2 : Int) * (bs : Int) = (t : Int) := by omega
          have e2 : (bs : Int) * 2 = (t : Int) := by omega
          have w1 : IntKind.i64.wrap (t : Int) = (t : Int) := by rw [IntKind.wrap_i64]; omega
          have HT : Hid (2 * bs = t) := ht
          have ht0 : bs < t := by omega
          have ht1 : t ≤ 2 * n := by omega
          clear HI ht
          go_wp2
          go_loopg [7, 8] n (fun kx s2 t2 wr2 => ∃ (q a b : Nat), s2 = .int .i64 a ∧ t2 = .int .i64 b ∧ Hid (b = a + t) ∧ a ≤ n ∧ n - a ≤ kx ∧ Hid (∃ M, Inv2 key n L bs q a M ∧ SL k w0 blk off M wr2))
          case atStart => exact ⟨0, 0, t, rfl, rfl, (Nat.zero_add t).symm, Nat.zero_le _, by omega, HI2⟩
          case round =>
            clear HI2
            obtain ⟨q, a, b, rfl, rfl, HBA, han, hkx2, HI⟩ := hrel
            obtain ⟨M, hI, hS1⟩ := HI.out
            have hba := HBA.out
            have ht := HT.out
            by_cases hlt2 : b ≤ n
            · have hltz2 : (b : Int) ≤ (n : Int) := by omega
              obtain ⟨P, U, V, Q, rfl, hP, hU, hV, hall, sU, sV, hnx⟩ := inv2_step hI (by omega)
              obtain ⟨m, hm⟩ : ∃ m, a + bs = m := ⟨_, rfl⟩
              have em : (a : Int) + (bs : Int) = (m : Int) := by omega
              have wm : IntKind.i64.wrap (m : Int) = (m : Int) := by rw [IntKind.wrap_i64]; omega
              have C := HSYM.out P U V Q a m b wr (by omega) hall hP (by omega) (by omega) (by omega) (by omega) sU sV hS1
              have HN : Hid (∀ T, Srt key T → FE key (U ++ V) T → Inv2 key n L bs (q + 1) b (P ++ (T ++ Q))) := fun T h1 h2 => by have := hnx T h1 h2; rwa [show a + 2 * bs = b by omega] at this
              clear hI hS1 hnx hall hP hU hV sU sV HI ht hm
              have hb0 : a < b := by omega
              clear hba
              have wb : IntKind.i64.wrap ((b : Int) + (t : Int)) = (b : Int) + (t : Int) := by rw [IntKind.wrap_i64]; omega
              go_wp2_with fail
              refine C.mono ?_
              rintro e w2 ⟨rfl, T, hT1, hT2, hS2⟩
              have HS2 : Hid (∃ M, Inv2 key n L bs (q + 1) b M ∧ SL k w0 blk off M w2) := ⟨_, HN.out T hT1 hT2, hS2⟩
              clear C HN hT1 hT2 hS2
              go_wp2
              go_roundg (n - b)
              case measure => omega
              case rel => exact ⟨q + 1, b, b + t, rfl, by first | rfl | go_num | (congr 1), (show Hid (b + t = b + t) from rfl), hlt2, Nat.le_refl _, HS2⟩
            · have hltz2 : ¬ (b : Int) ≤ (n : Int) := by omega
              obtain ⟨m, hm⟩ : ∃ m, a + bs = m := ⟨_, rfl⟩
              have em : (a : Int) + (bs : Int) = (m : Int) := by omega
              have wm : IntKind.i64.wrap (m : Int) = (m : Int) := by rw [IntKind.wrap_i64]; omega
              by_cases hmn : m < n
              · have hmz : (m : Int) < (n : Int) := by omega
                obtain ⟨P, U, V, rfl, hP, hU, hV, sU, sV, hnx⟩ := inv2_tail hI (by omega) (by omega)
                have C := HSYM.out P U V [] a m n wr (by omega) (by simp; omega) hP (by omega) (by omega) (by omega) (by omega) sU sV hS1
                have HN : Hid (∀ T, Srt key T → FE key (U ++ V) T → Inv1 key n L t (P ++ (T ++ []))) := fun T h1 h2 => by rw [← ht]; exact hnx T h1 h2
                clear hI hS1 hnx hP hU hV sU sV HI ht hm hba
                go_wp2_with fail
                refine C.mono ?_
                rintro e w2 ⟨rfl, T, hT1, hT2, hS2⟩
                have HS2 : Hid (∃ M, Inv1 key n L t M ∧ SL k w0 blk off M w2) := ⟨_, HN.out T hT1 hT2, hS2⟩
                clear C HN hT1 hT2 hS2
                go_wp2
                go_roundg (n - t)
                case measure => omega
                case rel => exact ⟨t, by first | rfl | go_num | (congr 1), by omega, by omega, Nat.le_refl _, HS2⟩
              · have hmz : ¬ (m : Int) < (n : Int) := by omega
                have HS2 : Hid (∃ M, Inv1 key n L t M ∧ SL k w0 blk off M wr) := ⟨M, by rw [← ht]; exact inv2_done hI (by omega), hS1⟩
                clear hI hS1 HI ht hm hba
                go_wp2
                go_roundg (n - t)
                case measure => omega
                case rel => exact ⟨t, by first | rfl | go_num | (congr 1), by omega, by omega, Nat.le_refl _, HS2⟩
        · have hltz : ¬ (bs : Int) < (n : Int) := by omega
          go_wp2
          go_end0
          obtain ⟨M, h1, h2⟩ := HI.out
          have := inv1_end h1 (by omega)
          exact ⟨rfl, M, this.1, this.2, h2⟩
set_option maxRecDepth 1000000 in
theorem sortStable_any (k : Nat) (HK3 : Hid (k = 3)) (key : I → Int) (cf : I → I → Int) (hcf : ∀ x y, cf x y < 0 ↔ key x < key y) (g : Nat) (cb : Array Value) (blk off cap n : Nat) (d0 : Array I) (w0 w : World)
    (eg : ∀ args w, (callFunc g args).run Tryz.prog w = .ok (.enter g args) w) (hC : CmpLays Tryz.prog g cb encI k cf blk off n w0) (R : RowK encI k w0 blk off d0) (L : List I) (hn : L.length = n) (hd : d0.size = n) (hsz : n < 1000000000000)
    (hS : SL k w0 blk off L w) :
    Calls Tryz.prog 91 #[.slice (some ⟨blk, off, none⟩) n cap, .func (.func g) #[] cb] w fun e w' => e = .returned (.tuple #[]) ∧ ∃ M, Srt key M ∧ FE key L M ∧ SL k w0 blk off M w' := by
  have C := stable_any k HK3 key cf hcf g cb blk off cap n d0 w0 w eg hC R L hn hd hsz hS
  clear hC R hS hcf eg
  go_enter Tryz.func91, Tryz.ntmps91
  go_wp2_with fail
  refine C.mono ?_
  rintro e w1 ⟨rfl, h⟩
  have H : Hid _ := h
  clear C h
  go_wp2
  go_end0
  exact ⟨rfl, H.out⟩
set_option maxRecDepth 1000000 in
theorem insertion_none (a : Option Addr) (cap : Nat) (f : Value) (w : World) : Calls Tryz.prog 134 #[.slice a 0 cap, .int .i64 0, .int .i64 0, f] w fun e w' => e = .returned (.tuple #[]) ∧ w' = w := by
  go_enter Tryz.func134, Tryz.ntmps134
  go_wp2
  refine wp_loop_rounds 1 ?_
  rw [rounds_succ]
  go_wp2
  go_end0
  exact ⟨rfl, rfl⟩
set_option maxRecDepth 1000000 in
theorem sortStable_none (a : Option Addr) (cap : Nat) (f : Value) (w : World) : Calls Tryz.prog 91 #[.slice a 0 cap, f] w fun e w' => e = .returned (.tuple #[]) ∧ w' = w := by
  have C : Calls Tryz.prog 115 #[.slice a 0 cap, .int .i64 0, f] w fun e w' => e = .returned (.tuple #[]) ∧ w' = w := by
    have C := insertion_none a cap f w
    go_enter Tryz.func115, Tryz.ntmps115
    go_wp2
    refine wp_loop_rounds 1 ?_
    rw [rounds_succ]
    go_wp2_with fail
    refine C.mono ?_
    rintro e w1 ⟨rfl, rfl⟩
    clear C
    go_wp2
    refine wp_loop_rounds 1 ?_
    rw [rounds_succ]
    go_wp2
    go_end0
    exact ⟨rfl, rfl⟩
  go_enter Tryz.func91, Tryz.ntmps91
  go_wp2_with fail
  refine C.mono ?_
  rintro e w1 ⟨rfl, rfl⟩
  clear C
  go_wp2
  go_end0
  exact ⟨rfl, rfl⟩
end Go.Proofs.YtlidgjkipbijlaaGreatDoor.nfd
end
