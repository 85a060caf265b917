/- Texts that the proof leans on, one behind the other. -/
import Derived.Test.YtlidgjkipbijlaaGreatDoorChecked
import Derived.Test.YtlidgjkipbijlaaGreatDoorBdNfd1
import Derived.Shelf.SlSortCmp.KitK
import Derived.Sort.WalkB2
import Derived.Sort.WalkB12
import Derived.Deep.LoopGhost

section
/- Exchanges of items in a row: slices' swapRangeCmpFunc and rotateCmpFunc. -/
set_option linter.unusedVariables false
set_option linter.unusedSimpArgs false
namespace Go.Proofs.YtlidgjkipbijlaaGreatDoor.nfd
open Go.Shelf Go.RowKit Go.Lib Go.Sort Go.Proofs

/-- An item: a code point, and where its bytes begin and end. -/
abbrev I := Int × Int × Int
def encI (x : I) : List Value := [.int .i64 x.1, .int .i64 x.2.1, .int .i64 x.2.2]
theorem encI_len (x : I) : (encI x).length = 3 := rfl
theorem encI_one (x : I) : ∀ v ∈ encI x, v.oneCell' = true := by
  intro v hv
  simp only [encI, List.mem_cons, List.mem_nil_iff, or_false] at hv
  rcases hv with rfl | rfl | rfl <;> rfl
theorem mixed : Tryz.prog.follows .mixedOrders = true := by kernel_rfl
/-- The row holds l (an item is k cells, k is 3). -/
abbrev SL (k : Nat) (w0 : World) (blk off : Nat) (l : List I) (W : World) : Prop := SWK encI k w0 blk off l.toArray W
theorem size_k (k : Nat) (h : Hid (k = 3)) : ∀ w, (Go.sizeOf 30).run Tryz.prog w = .ok k w := by rw [h.out]; exact Tryz.sizeOf30

/-- So many of X and Z have changed places. -/
def sw {α : Type} (P X Y Z Q : List α) (i : Nat) : List α := P ++ ((Z.take i ++ X.drop i) ++ (Y ++ ((X.take i ++ Z.drop i) ++ Q)))
theorem sw_zero {α : Type} (P X Y Z Q : List α) : sw P X Y Z Q 0 = P ++ (X ++ (Y ++ (Z ++ Q))) := by simp [sw]
theorem sw_all {α : Type} (P X Y Z Q : List α) (h : X.length = Z.length) : sw P X Y Z Q X.length = P ++ (Z ++ (Y ++ (X ++ Q))) := by
  unfold sw
  rw [List.drop_length, List.take_length, h, List.drop_length, List.take_length]
  simp
theorem sw_len {α : Type} (P X Y Z Q : List α) (h : X.length = Z.length) (i : Nat) (hi : i ≤ X.length) : (sw P X Y Z Q i).length = P.length + X.length + Y.length + Z.length + Q.length := by
  unfold sw; simp; omega
theorem sw_step {α : Type} [Inhabited α] (P X Y Z Q : List α) (h : X.length = Z.length) (i : Nat) (hi : i < X.length) : swp (sw P X Y Z Q i).toArray (P.length + i) (P.length + X.length + Y.length + i) = (sw P X Y Z Q (i + 1)).toArray := by
  obtain ⟨x, hx⟩ : ∃ x, X[i]? = some x := ⟨_, List.getElem?_eq_getElem hi⟩
  obtain ⟨z, hz⟩ : ∃ z, Z[i]? = some z := ⟨_, List.getElem?_eq_getElem (by omega)⟩
  obtain ⟨hx1, hx2⟩ := List.getElem?_eq_some_iff.1 hx
  obtain ⟨hz1, hz2⟩ := List.getElem?_eq_some_iff.1 hz
  have dX : X.drop i = x :: X.drop (i + 1) := by rw [List.drop_eq_getElem_cons hx1, hx2]
  have dZ : Z.drop i = z :: Z.drop (i + 1) := by rw [List.drop_eq_getElem_cons hz1, hz2]
  have tX : X.take (i + 1) = X.take i ++ [x] := by rw [List.take_succ_eq_append_getElem hx1, hx2]
  have tZ : Z.take (i + 1) = Z.take i ++ [z] := by rw [List.take_succ_eq_append_getElem hz1, hz2]
  have e1 : sw P X Y Z Q i = (P ++ Z.take i) ++ x :: ((X.drop (i + 1) ++ (Y ++ X.take i)) ++ z :: (Z.drop (i + 1) ++ Q)) := by
    unfold sw; rw [dX, dZ]; simp
  have e2 : sw P X Y Z Q (i + 1) = (P ++ Z.take i) ++ z :: ((X.drop (i + 1) ++ (Y ++ X.take i)) ++ x :: (Z.drop (i + 1) ++ Q)) := by
    unfold sw; rw [tX, tZ]; simp
  rw [e1, e2]
  exact swp_list _ _ _ _ _ _ _ (by simp; omega) (by simp; omega)

set_option maxHeartbeats 4000000 in
set_option maxRecDepth 1000000 in
theorem swapRange_any (k : Nat) (HK3 : Hid (k = 3)) (fv : Value) (blk off cap n a b : Nat) (d0 : Array I) (w0 w : World) (R : RowK encI k w0 blk off d0) (P X Y Z Q : List I) (h : X.length = Z.length) (hn : P.length + X.length + Y.length + Z.length + Q.length = n) (hd : d0.size = n) (hsz : n < 4611686018427387904)
    (ha : P.length = a) (hb : a + X.length + Y.length = b) (S : SL k w0 blk off (P ++ (X ++ (Y ++ (Z ++ Q)))) w) :
    Calls Tryz.prog 162 #[.slice (some ⟨blk, off, none⟩) n cap, .int .i64 a, .int .i64 b, .int .i64 X.length, fv] w fun e w' => e = .returned (.tuple #[]) ∧ SL k w0 blk off (P ++ (Z ++ (Y ++ (X ++ Q)))) w' := by
  have mixed := mixed
  have aE := Tryz.isAgg30
  have zE := size_k k HK3
  obtain ⟨c, hc⟩ : ∃ c, X.length = c := ⟨_, rfl⟩
  have HL : Hid (∀ i, i ≤ c → (sw P X Y Z Q i).toArray.size = n) := fun i hi => by have := sw_len P X Y Z Q h i (by omega); simp; omega
  have HS : Hid (∀ i, i < c → swp (sw P X Y Z Q i).toArray (a + i) (b + i) = (sw P X Y Z Q (i + 1)).toArray) := fun i hi => by rw [← hb, ← ha]; exact sw_step P X Y Z Q h i (by omega)
  have HA : Hid ((sw P X Y Z Q c) = P ++ (Z ++ (Y ++ (X ++ Q)))) := by show _ = _; rw [← hc]; exact sw_all P X Y Z Q h
  have S0 : Aside (SWK encI k w0 blk off (sw P X Y Z Q 0).toArray w) := by show SWK _ _ _ _ _ _ _; rw [sw_zero]; exact S
  have hbn : b + c ≤ n := by omega
  have hab : a + c ≤ b := by omega
  rw [hc]
  clear S h hn ha hb hc
  generalize sw P X Y Z Q = D at *
  generalize P ++ (Z ++ (Y ++ (X ++ Q))) = E at *
  clear P X Y Z Q
  go_enter Tryz.func162, Tryz.ntmps162
  go_wp2
  go_loopg [10] c (fun kx s wr => ∃ (i : Nat), s = .int .i64 i ∧ i ≤ c ∧ c - i ≤ kx ∧ Aside (SWK encI k w0 blk off (D i).toArray wr))
  case atStart => exact ⟨0, rfl, Nat.zero_le _, by omega, S0⟩
  case round =>
    clear S0
    obtain ⟨i, rfl, hic, hkx, S1⟩ := hrel
    have hsi := HL.out i hic
    by_cases hlt : i < c
    · have hltz : (i : Int) < (c : Int) := by omega
      go_wp2_with fail
      have ea : ((a : Int) + (i : Int)).toNat = a + i := by omega
      have pa : (0 : Int) ≤ (a : Int) + (i : Int) := by omega
      have ba : (a : Int) + (i : Int) < (n : Int) := by omega
      have ra : IntKind.i64.wrap ((a : Int) + (i : Int)) = (a : Int) + (i : Int) := by rw [IntKind.wrap_i64]; omega
      have ec : ((b : Int) + (i : Int)).toNat = b + i := by omega
      have pc : (0 : Int) ≤ (b : Int) + (i : Int) := by omega
      have bc : (b : Int) + (i : Int) < (n : Int) := by omega
      have rc : IntKind.i64.wrap ((b : Int) + (i : Int)) = (b : Int) + (i : Int) := by rw [IntKind.wrap_i64]; omega
      have S2 : Aside (SWK encI k w0 blk off (D (i + 1)).toArray ((wr.drew.setCells blk (off + (a + i) * k) (encI (D i).toArray[b + i]!)).setCells blk (off + (b + i) * k) (encI (D i).toArray[a + i]!))) := by
        show SWK _ _ _ _ _ _ _
        rw [← HS.out i hlt]
        exact S1.out.swapped R (a + i) (b + i) (by omega) (by omega)
      have la := S1.out.ld1 R (by omega) Tryz.prog (a + i) (by omega)
      have lb := S1.out.ld1 R (by omega) Tryz.prog (b + i) (by omega)
      have sa := S1.out.st1 R (by omega) Tryz.prog (a + i) (by omega) (D i).toArray[b + i]!
      have sb := S1.out.st2 R (by omega) Tryz.prog (a + i) (b + i) (by omega) (by omega) (D i).toArray[b + i]! (D i).toArray[a + i]!
      have na : (encI (D i).toArray[a + i]!).length = k := HK3.out.symm
      have nb : (encI (D i).toArray[b + i]!).length = k := HK3.out.symm
      generalize encI (D i).toArray[a + i]! = cI at S2 la sb na
      generalize encI (D i).toArray[b + i]! = cJ at S2 lb sa sb nb
      clear S1
      go_wp2_with fail
      go_big_region_o
      clear la lb sa sb
      generalize (wr.drew.setCells blk (off + (a + i) * k) cJ).setCells blk (off + (b + i) * k) cI = w2 at S2 ⊢
      go_wp2
      go_roundg (c - (i + 1))
      case measure => omega
      case rel => exact ⟨i + 1, by go_num, by omega, Nat.le_refl _, S2⟩
    · have hltz : ¬ (i : Int) < (c : Int) := by omega
      obtain rfl : i = c := by omega
      go_wp2
      go_end0
      refine ⟨rfl, ?_⟩
      rw [← HA.out]
      exact S1.out
end Go.Proofs.YtlidgjkipbijlaaGreatDoor.nfd
end

section
/- Two neighbouring parts of a row change places: slices' rotateCmpFunc. -/
set_option linter.unusedVariables false
set_option linter.unusedSimpArgs false
namespace Go.Proofs.YtlidgjkipbijlaaGreatDoor.nfd
open Go.Shelf Go.RowKit Go.Lib Go.Sort Go.Proofs

theorem cut_at {α : Type} (l : List α) (j : Nat) (h : j ≤ l.length) : ∃ x y, l = x ++ y ∧ x.length = j ∧ y.length = l.length - j :=
  ⟨l.take j, l.drop j, (List.take_append_drop j l).symm, by simp; omega, by simp⟩
set_option maxHeartbeats 4000000 in
set_option maxRecDepth 1000000 in
theorem rotate_any (k : Nat) (HK3 : Hid (k = 3)) (fv : Value) (blk off cap n a m b : Nat) (d0 : Array I) (w0 w : World) (R : RowK encI k w0 blk off d0) (P U V Q : List I) (hn : P.length + U.length + V.length + Q.length = n) (hd : d0.size = n) (hsz : n < 4611686018427387904)
    (ha : P.length = a) (hm : a + U.length = m) (hb : m + V.length = b) (hU : 0 < U.length) (hV : 0 < V.length) (S : SL k w0 blk off (P ++ (U ++ (V ++ Q))) w) :
    Calls Tryz.prog 147 #[.slice (some ⟨blk, off, none⟩) n cap, .int .i64 a, .int .i64 m, .int .i64 b, fv] w fun e w' => e = .returned (.tuple #[]) ∧ SL k w0 blk off (P ++ (V ++ (U ++ Q))) w' := by
  have HSW : Hid (∀ (a b : Nat) (w : World) (P X Y Z Q : List I), X.length = Z.length → P.length + X.length + Y.length + Z.length + Q.length = n → P.length = a → a + X.length + Y.length = b → SL k w0 blk off (P ++ (X ++ (Y ++ (Z ++ Q)))) w →
    Calls Tryz.prog 162 #[.slice (some ⟨blk, off, none⟩) n cap, .int .i64 a, .int .i64 b, .int .i64 X.length, fv] w fun e w' => e = .returned (.tuple #[]) ∧ SL k w0 blk off (P ++ (Z ++ (Y ++ (X ++ Q)))) w') :=
    fun a b w P X Y Z Q h hn ha hb S => swapRange_any k HK3 fv blk off cap n a b d0 w0 w R P X Y Z Q h hn hd hsz ha hb S
  have hm1 : m + V.length ≤ n := by omega
  obtain ⟨T, hT⟩ : ∃ T, T = P ++ (V ++ (U ++ Q)) := ⟨_, rfl⟩
  have HI : Hid (∃ p x y q : List I, p.length + U.length = m ∧ x.length = U.length ∧ y.length = V.length ∧ p.length + x.length + y.length + q.length = n ∧ p ++ (y ++ (x ++ q)) = T ∧ SL k w0 blk off (p ++ (x ++ (y ++ q))) w) := ⟨P, U, V, Q, by omega, rfl, rfl, hn, hT.symm, S⟩
  have hi0 : (m : Int) - (a : Int) = (U.length : Int) := by omega
  have hj0 : (b : Int) - (m : Int) = (V.length : Int) := by omega
  rw [← hT]
  have hum : U.length ≤ m := by omega
  clear S hn hT ha hm hb R hd
  generalize U.length = u at *
  generalize V.length = v at *
  clear P U V Q
  have wu : IntKind.i64.wrap (u : Int) = (u : Int) := by rw [IntKind.wrap_i64]; omega
  have wv : IntKind.i64.wrap (v : Int) = (v : Int) := by rw [IntKind.wrap_i64]; omega
  go_enter Tryz.func147, Tryz.ntmps147
  go_wp2
  go_loopg [10, 11] (u + v) (fun kx s t wr => ∃ (i j : Nat), s = .int .i64 i ∧ t = .int .i64 j ∧ 0 < i ∧ 0 < j ∧ i ≤ m ∧ m + j ≤ n ∧ i + j ≤ kx ∧ Hid (∃ p x y q : List I, p.length + i = m ∧ x.length = i ∧ y.length = j ∧ p.length + x.length + y.length + q.length = n ∧ p ++ (y ++ (x ++ q)) = T ∧ SL k w0 blk off (p ++ (x ++ (y ++ q))) wr))
  case atStart => exact ⟨u, v, rfl, rfl, hU, hV, hum, hm1, Nat.le_refl _, HI⟩
  case round =>
    clear HI hi0 hj0 wu wv
    obtain ⟨i, j, rfl, rfl, i0, j0, him, hjn, hkx, HJ⟩ := hrel
    obtain ⟨p, x, y, q, h1, h2, h3, h4, h5, S1⟩ := HJ.out
    have HS1 : Hid (SL k w0 blk off (p ++ (x ++ (y ++ q))) wr) := S1
    have H5 : Hid (p ++ (y ++ (x ++ q)) = T) := h5
    obtain ⟨pn, hp⟩ : ∃ pn, p.length = pn := ⟨_, rfl⟩
    have HP : Hid (p.length = pn) := hp
    have HX : Hid (x.length = i) := h2
    have HY : Hid (y.length = j) := h3
    have HQ : Hid (pn + i + j + q.length = n) := by show _ = _; omega
    rw [hp] at h1
    have e1 : (m : Int) - (i : Int) = (pn : Int) := by omega
    have w1 : IntKind.i64.wrap (pn : Int) = (pn : Int) := by rw [IntKind.wrap_i64]; omega
    clear HJ S1 h5 hp h2 h3 h4
    by_cases hne : i = j
    · subst hne
      have C := HSW.out pn m wr p x [] y q (HX.out.trans HY.out.symm) (by have := HX.out; have := HY.out; have := HP.out; have := HQ.out; simp; omega) HP.out (by have := HX.out; simp; omega) HS1.out
      rw [HX.out, List.nil_append, H5.out] at C
      have hbe : ((i : Int) != (i : Int)) = false := by simp
      clear HS1 H5
      go_wp2_with fail
      refine C.mono ?_
      rintro e w1 ⟨rfl, S2⟩
      have HS2 : Hid (SL k w0 blk off T w1) := S2
      clear C S2
      go_wp2
      go_end0
      exact ⟨rfl, HS2.out⟩
    · have hbe : ((i : Int) != (j : Int)) = true := by simp; omega
      by_cases hgt : j < i
      · have hgz : (i : Int) > (j : Int) := by omega
        obtain ⟨x1, x2, hx, hx1, hx2⟩ := cut_at x j (by rw [HX.out]; omega)
        have C := HSW.out pn m wr p x1 x2 y q (hx1.trans HY.out.symm) (by have := HX.out; have := HY.out; have := HP.out; have := HQ.out; omega) HP.out (by have := HX.out; omega) (by rw [← List.append_assoc x1, ← hx]; exact HS1.out)
        rw [hx1] at C
        have HN : Hid (∀ W, SL k w0 blk off (p ++ (y ++ (x2 ++ (x1 ++ q)))) W → ∃ p x y q : List I, p.length + (i - j) = m ∧ x.length = i - j ∧ y.length = j ∧ p.length + x.length + y.length + q.length = n ∧ p ++ (y ++ (x ++ q)) = T ∧ SL k w0 blk off (p ++ (x ++ (y ++ q))) W) := fun W hW =>
          ⟨p ++ y, x2, x1, q, by have := HP.out; have := HY.out; simp; omega, by have := HX.out; omega, hx1, by have := HX.out; have := HY.out; have := HP.out; have := HQ.out; simp; omega, by rw [← H5.out, hx]; simp, by rw [List.append_assoc]; exact hW⟩
        have e2 : (i : Int) - (j : Int) = ((i - j : Nat) : Int) := by omega
        have w2 : IntKind.i64.wrap ((i - j : Nat) : Int) = ((i - j : Nat) : Int) := by rw [IntKind.wrap_i64]; omega
        clear HS1 hx hx1 hx2
        go_wp2_with fail
        refine C.mono ?_
        rintro e w1 ⟨rfl, S2⟩
        have HS2 := HN.out w1 S2
        have HS3 : Hid _ := HS2
        clear C S2 HS2 HN
        go_wp2
        go_roundg (i - j + j)
        case measure => omega
        case rel => exact ⟨i - j, j, by first | rfl | (congr 1), rfl, by omega, j0, by omega, hjn, Nat.le_refl _, HS3⟩
      · have hgz : ¬ (i : Int) > (j : Int) := by omega
        obtain ⟨y1, y2, hy, hy1, hy2⟩ := cut_at y (j - i) (by rw [HY.out]; omega)
        have C := HSW.out pn (m + (j - i)) wr p x y1 y2 q (by have := HX.out; have := HY.out; omega) (by have := HX.out; have := HY.out; have := HP.out; have := HQ.out; omega) HP.out (by have := HX.out; omega) (by rw [← List.append_assoc y1, ← hy]; exact HS1.out)
        rw [HX.out] at C
        have HN : Hid (∀ W, SL k w0 blk off (p ++ (y2 ++ (y1 ++ (x ++ q)))) W → ∃ p x y q : List I, p.length + i = m ∧ x.length = i ∧ y.length = j - i ∧ p.length + x.length + y.length + q.length = n ∧ p ++ (y ++ (x ++ q)) = T ∧ SL k w0 blk off (p ++ (x ++ (y ++ q))) W) := fun W hW =>
          ⟨p, y2, y1, x ++ q, by have := HP.out; omega, by have := HY.out; omega, hy1, by have := HX.out; have := HY.out; have := HP.out; have := HQ.out; simp; omega, by rw [← H5.out, hy]; simp, hW⟩
        have e2 : (j : Int) - (i : Int) = ((j - i : Nat) : Int) := by omega
        have w2 : IntKind.i64.wrap ((j - i : Nat) : Int) = ((j - i : Nat) : Int) := by rw [IntKind.wrap_i64]; omega
        have e3 : (m : Int) + (j : Int) - (i : Int) = ((m + (j - i) : Nat) : Int) := by omega
        have w3 : IntKind.i64.wrap ((m : Int) + (j : Int)) = (m : Int) + (j : Int) := by rw [IntKind.wrap_i64]; omega
        have w4 : IntKind.i64.wrap ((m + (j - i) : Nat) : Int) = ((m + (j - i) : Nat) : Int) := by rw [IntKind.wrap_i64]; omega
        obtain ⟨mj, hmj⟩ : ∃ q, m + (j - i) = q := ⟨_, rfl⟩
        obtain ⟨ji, hji⟩ : ∃ q, j - i = q := ⟨_, rfl⟩
        rw [hmj] at C e3 w4
        rw [hji] at HN e2 w2
        clear HS1 hy hy1 hy2 hmj
        go_wp2_with fail
        refine C.mono ?_
        rintro e w1 ⟨rfl, S2⟩
        have HS2 := HN.out w1 S2
        have HS3 : Hid _ := HS2
        clear C S2 HS2 HN
        go_wp2
        go_roundg (i + ji)
        case measure => omega
        case rel => exact ⟨i, ji, rfl, by first | rfl | (congr 1), i0, by omega, him, by omega, Nat.le_refl _, HS3⟩
end Go.Proofs.YtlidgjkipbijlaaGreatDoor.nfd
end

section
/- What a search in a sorted part says of it; a merge's middle. -/
set_option linter.unusedVariables false
set_option linter.unusedSimpArgs false
namespace Go.Proofs.YtlidgjkipbijlaaGreatDoor.nfd
open Go.Sort Go.Proofs

theorem at_mid {α : Type} [Inhabited α] (A S B : List α) (j : Nat) (h1 : A.length ≤ j) (h2 : j < A.length + S.length) : S[j - A.length]? = some (A ++ (S ++ B)).toArray[j]! := by
  have hj : j < (A ++ (S ++ B)).length := by simp; omega
  rw [getElem!_pos _ _ (by simpa using hj)]
  have : (A ++ (S ++ B))[j]? = S[j - A.length]? := by rw [List.getElem?_append_right h1, List.getElem?_append_left (by omega)]
  rw [← this, List.getElem?_eq_getElem hj]
  simp
theorem split_p {α : Type} (key : α → Int) (p : α → Prop) (hp : ∀ a b, key a ≤ key b → p b → p a) (V : List α) (sV : Srt key V) (i : Nat) (hi : i ≤ V.length) (h1 : i = 0 ∨ ∃ v, V[i - 1]? = some v ∧ p v) (h2 : i = V.length ∨ ∃ v, V[i]? = some v ∧ ¬ p v) :
    ∃ V1 V2, V = V1 ++ V2 ∧ V1.length = i ∧ (∀ v ∈ V1, p v) ∧ ∀ v ∈ V2, ¬ p v := by
  refine ⟨V.take i, V.drop i, (List.take_append_drop i V).symm, by simp; omega, fun v hv => ?_, fun v hv => ?_⟩
  · obtain ⟨j, hj, rfl⟩ := List.getElem_of_mem hv
    have hj' : j < i := by simp at hj; omega
    rw [List.getElem_take]
    rcases h1 with h1 | ⟨u, hu, pu⟩
    · omega
    · obtain ⟨q1, q2⟩ := List.getElem?_eq_some_iff.1 hu
      by_cases e : j = i - 1
      · subst e; rw [q2]; exact pu
      · have := List.pairwise_iff_getElem.1 sV j (i - 1) (by omega) q1 (by omega)
        rw [q2] at this
        exact hp _ _ this pu
  · obtain ⟨j, hj, rfl⟩ := List.getElem_of_mem hv
    have hj' : i + j < V.length := by simp at hj; omega
    rw [List.getElem_drop]
    rcases h2 with h2 | ⟨u, hu, pu⟩
    · omega
    · obtain ⟨q1, q2⟩ := List.getElem?_eq_some_iff.1 hu
      intro hpv
      by_cases e : j = 0
      · subst e; apply pu; rw [← q2]; simpa using hpv
      · have := List.pairwise_iff_getElem.1 sV i (i + j) q1 hj' (by omega)
        rw [q2] at this
        exact pu (hp _ _ this hpv)
theorem srt_append {α : Type} {key : α → Int} {a b : List α} (h : Srt key (a ++ b)) : Srt key a ∧ Srt key b := ⟨(List.pairwise_append.1 h).1, (List.pairwise_append.1 h).2.1⟩
/-- One element goes behind those of smaller keys. -/
theorem merge_first {α : Type} (key : α → Int) (x : α) (V1 V2 : List α) (sV : Srt key (V1 ++ V2)) (h1 : ∀ v ∈ V1, key v < key x) (h2 : ∀ v ∈ V2, ¬ key v < key x) : Srt key (V1 ++ (x :: V2)) ∧ FE key (x :: (V1 ++ V2)) (V1 ++ (x :: V2)) := by
  have := merge_rot key [] [x] V1 V2 (by simp [Srt]) sV (fun v hv u hu => by simp at hu; subst hu; exact h1 v hv) (by simp) (srt_append sV).1 (List.pairwise_cons.2 ⟨fun y hy => by have := h2 y hy; omega, (srt_append sV).2⟩)
  simpa using this
/-- One element goes ahead of those of greater keys. -/
theorem merge_last {α : Type} (key : α → Int) (y : α) (U1 U2 : List α) (sU : Srt key (U1 ++ U2)) (h1 : ∀ v ∈ U1, key v ≤ key y) (h2 : ∀ v ∈ U2, ¬ key v ≤ key y) : Srt key (U1 ++ (y :: U2)) ∧ FE key ((U1 ++ U2) ++ [y]) (U1 ++ (y :: U2)) := by
  have := merge_rot key U1 U2 [y] [] sU (by simp [Srt]) (fun v hv u hu => by simp at hv; subst hv; have := h2 u hu; omega) (by simp) (List.pairwise_append.2 ⟨(srt_append sU).1, by simp, fun a ha b hb => by simp at hb; subst hb; exact h1 a ha⟩) (by rw [List.append_nil]; exact (srt_append sU).2)
  simpa using this
/-- x has gone t places on. -/
def mv {α : Type} (P : List α) (x : α) (V Q : List α) (t : Nat) : List α := P ++ (V.take t ++ x :: (V.drop t ++ Q))
theorem mv_zero {α : Type} (P : List α) (x : α) (V Q : List α) : mv P x V Q 0 = P ++ (x :: (V ++ Q)) := by simp [mv]
theorem mv_all {α : Type} (P : List α) (x : α) (V Q : List α) : mv P x V Q V.length = P ++ (V ++ x :: Q) := by simp [mv]
theorem mv_len {α : Type} (P : List α) (x : α) (V Q : List α) (t : Nat) (h : t ≤ V.length) : (mv P x V Q t).length = P.length + V.length + 1 + Q.length := by simp [mv]; omega
theorem mv_form {α : Type} (P : List α) (x : α) (V Q : List α) (t : Nat) (h : t < V.length) : ∃ v, mv P x V Q t = (P ++ V.take t) ++ x :: v :: (V.drop (t + 1) ++ Q) ∧ mv P x V Q (t + 1) = (P ++ V.take t) ++ v :: x :: (V.drop (t + 1) ++ Q) := by
  obtain ⟨v, hv⟩ : ∃ v, V[t]? = some v := ⟨_, List.getElem?_eq_getElem h⟩
  obtain ⟨h1, h2⟩ := List.getElem?_eq_some_iff.1 hv
  have e1 : V.drop t = v :: V.drop (t + 1) := by rw [List.drop_eq_getElem_cons h1, h2]
  have e2 : V.take (t + 1) = V.take t ++ [v] := by rw [List.take_succ_eq_append_getElem h1, h2]
  exact ⟨v, by unfold mv; rw [e1]; simp, by unfold mv; rw [e2]; simp⟩
theorem mv_on {α : Type} [Inhabited α] (P : List α) (x : α) (V Q : List α) (t : Nat) (h : t < V.length) : swp (mv P x V Q t).toArray (P.length + t) (P.length + t + 1) = (mv P x V Q (t + 1)).toArray := by
  obtain ⟨v, e1, e2⟩ := mv_form P x V Q t h
  rw [e1, e2]
  exact swp_two _ _ _ _ _ _ (by simp; omega) (by simp; omega)
theorem mv_back {α : Type} [Inhabited α] (P : List α) (x : α) (V Q : List α) (t : Nat) (h : t < V.length) : swp (mv P x V Q (t + 1)).toArray (P.length + t + 1) (P.length + t) = (mv P x V Q t).toArray := by
  obtain ⟨v, e1, e2⟩ := mv_form P x V Q t h
  rw [e1, e2]
  exact swp_owt _ _ _ _ _ _ (by simp; omega) (by simp; omega)

/-- The middle of a merge: s is where the search ended. -/
theorem sym_parts {α : Type} [Inhabited α] (key : α → Int) (P U V Q L : List α) (hL : L = P ++ (U ++ (V ++ Q))) (a m b mid s s0 r0 : Nat) (ha : P.length = a) (hm : a + U.length = m) (hb : m + V.length = b) (hmid : mid = (a + b) / 2) (sU : Srt key U) (sV : Srt key V)
    (h0 : (mid < m ∧ s0 = mid + m - b ∧ r0 = mid) ∨ (m ≤ mid ∧ s0 = a ∧ r0 = m)) (hs1 : s0 ≤ s) (hs2 : s ≤ r0)
    (hlo : s = s0 ∨ key L.toArray[s - 1]! ≤ key L.toArray[mid + m - s]!) (hhi : s = r0 ∨ key L.toArray[mid + m - 1 - s]! < key L.toArray[s]!) :
    ∃ A U2 V1 B, U = A ++ U2 ∧ V = V1 ++ B ∧ a + A.length = s ∧ m + V1.length = mid + m - s ∧ (∀ v ∈ V1, ∀ u ∈ U2, key v < key u) ∧ ∀ x ∈ A, ∀ y ∈ B, key x ≤ key y := by
  have gU : ∀ j, a ≤ j → j < m → U[j - a]? = some L.toArray[j]! := fun j h1 h2 => by rw [hL, ← ha]; exact at_mid P U (V ++ Q) j (by omega) (by omega)
  have gV : ∀ j, m ≤ j → j < b → V[j - m]? = some L.toArray[j]! := fun j h1 h2 => by
    have := at_mid (P ++ U) V Q j (by simp; omega) (by simp; omega)
    rw [List.append_assoc] at this
    rw [hL]
    rw [show j - (P ++ U).length = j - m by simp; omega] at this
    exact this
  generalize L.toArray = E at *
  have has : a ≤ s := by omega
  have hsm : s ≤ m := by omega
  have he1 : m ≤ mid + m - s := by omega
  have he2 : mid + m - s ≤ b := by omega
  refine ⟨U.take (s - a), U.drop (s - a), V.take (mid + m - s - m), V.drop (mid + m - s - m), (List.take_append_drop _ _).symm, (List.take_append_drop _ _).symm, by simp; omega, by simp; omega, fun v hv u hu => ?_, fun x hx y hy => ?_⟩
  · obtain ⟨i, hi, rfl⟩ := List.getElem_of_mem hv
    obtain ⟨j, hj, rfl⟩ := List.getElem_of_mem hu
    rw [List.getElem_take, List.getElem_drop]
    have hi' : i < mid + m - s - m := by simp at hi; omega
    have hj' : s - a + j < U.length := by simp at hj; omega
    rcases hhi with hhi | hhi
    · omega
    · have e1 := gV (mid + m - 1 - s) (by omega) (by omega)
      have e2 := gU s has (by omega)
      obtain ⟨p1, p2⟩ := List.getElem?_eq_some_iff.1 e1
      obtain ⟨q1, q2⟩ := List.getElem?_eq_some_iff.1 e2
      have k1 : key (V[i]'(by omega)) ≤ key E[mid + m - 1 - s]! := by
        rw [← p2]
        by_cases e : i = mid + m - 1 - s - m
        · subst e; exact Int.le_refl _
        · exact List.pairwise_iff_getElem.1 sV i _ (by omega) p1 (by omega)
      have k2 : key E[s]! ≤ key (U[s - a + j]'hj') := by
        rw [← q2]
        by_cases e : j = 0
        · subst e; exact Int.le_refl _
        · exact List.pairwise_iff_getElem.1 sU (s - a) _ q1 hj' (by omega)
      omega
  · obtain ⟨i, hi, rfl⟩ := List.getElem_of_mem hx
    obtain ⟨j, hj, rfl⟩ := List.getElem_of_mem hy
    rw [List.getElem_take, List.getElem_drop]
    have hi' : i < s - a := by simp at hi; omega
    have hj' : mid + m - s - m + j < V.length := by simp at hj; omega
    rcases hlo with hlo | hlo
    · omega
    · have e1 := gV (mid + m - s) (by omega) (by omega)
      have e2 := gU (s - 1) (by omega) (by omega)
      obtain ⟨p1, p2⟩ := List.getElem?_eq_some_iff.1 e1
      obtain ⟨q1, q2⟩ := List.getElem?_eq_some_iff.1 e2
      have k1 : key (U[i]'(by omega)) ≤ key E[s - 1]! := by
        rw [← q2]
        by_cases e : i = s - 1 - a
        · subst e; exact Int.le_refl _
        · exact List.pairwise_iff_getElem.1 sU i _ (by omega) q1 (by omega)
      have k2 : key E[mid + m - s]! ≤ key (V[mid + m - s - m + j]'hj') := by
        rw [← p2]
        by_cases e : j = 0
        · subst e; exact Int.le_refl _
        · exact List.pairwise_iff_getElem.1 sV (mid + m - s - m) _ p1 hj' (by omega)
      omega
end Go.Proofs.YtlidgjkipbijlaaGreatDoor.nfd
end

section
/- A merge where one of the two parts is one element: slices' symMergeCmpFunc. -/
set_option linter.unusedVariables false
set_option linter.unusedSimpArgs false
namespace Go.Proofs.YtlidgjkipbijlaaGreatDoor.nfd
open Go.Shelf Go.RowKit Go.Lib Go.Sort Go.Proofs

set_option maxHeartbeats 8000000 in
set_option maxRecDepth 1000000 in
theorem sym_one (k : Nat) (HK3 : Hid (k = 3)) (key : I → Int) (cf : I → I → Int) (hcf : ∀ x y, cf x y < 0 ↔ key x < key y) (g : Nat) (cb : Array Value) (blk off cap n a m b : Nat) (d0 : Array I) (w0 w : World)
    (eg : ∀ args w, (callFunc g args).run Tryz.prog w = .ok (.enter g args) w) (hC : CmpLays Tryz.prog g cb encI k cf blk off n w0) (R : RowK encI k w0 blk off d0) (P V Q : List I) (x : I) (hn : P.length + 1 + V.length + Q.length = n) (hd : d0.size = n) (hsz : n < 4611686018427387904)
    (ha : P.length = a) (hm : a + 1 = m) (hb : m + V.length = b) (hV : 0 < V.length) (sV : Srt key V) (S : SL k w0 blk off (P ++ (x :: (V ++ Q))) w) :
    Calls Tryz.prog 135 #[.slice (some ⟨blk, off, none⟩) n cap, .int .i64 a, .int .i64 m, .int .i64 b, .func (.func g) #[] cb] w fun e w' => e = .returned (.tuple #[]) ∧ ∃ M, Srt key M ∧ FE key (x :: V) M ∧ SL k w0 blk off (P ++ (M ++ Q)) w' := by
  have mixed := mixed
  have aE := Tryz.isAgg30
  have zE := size_k k HK3
  obtain ⟨L, hL⟩ : ∃ L, P ++ (x :: (V ++ Q)) = L := ⟨_, rfl⟩
  have hLn : L.toArray.size = n := by rw [← hL]; simp; omega
  have hLa : L.toArray[a]! = x := by rw [← hL, ← ha]; exact get_mid _ _ _
  have gV : ∀ j, m ≤ j → j < b → V[j - m]? = some L.toArray[j]! := fun j h1 h2 => by
    have := at_mid (P ++ [x]) V Q j (by simp; omega) (by simp; omega)
    rw [show P ++ [x] ++ (V ++ Q) = L by rw [← hL]; simp, show j - (P ++ [x]).length = j - m by simp; omega] at this
    exact this
  have HFIN : Hid (∀ i, m ≤ i → i ≤ b → (i = m ∨ key L.toArray[i - 1]! < key x) → (i = b ∨ key x ≤ key L.toArray[i]!) → ∃ V1 V2, V1.length = i - m ∧ V = V1 ++ V2 ∧ Srt key (V1 ++ (x :: V2)) ∧ FE key (x :: V) (V1 ++ (x :: V2))) := fun i h1 h2 h3 h4 => by
    obtain ⟨V1, V2, e, hl, p1, p2⟩ := split_p key (fun v => key v < key x) (fun a b h1 h2 => by omega) V sV (i - m) (by omega)
      (by rcases h3 with h3 | h3
          · exact .inl (by omega)
          · rcases Nat.lt_or_ge m i with h | h
            · exact .inr ⟨_, by rw [show i - m - 1 = i - 1 - m by omega]; exact gV (i - 1) (by omega) (by omega), h3⟩
            · exact .inl (by omega))
      (by rcases h4 with h4 | h4
          · exact .inl (by omega)
          · rcases Nat.lt_or_ge i b with h | h
            · exact .inr ⟨_, gV i h1 h, by omega⟩
            · exact .inl (by omega))
    have q := merge_first key x V1 V2 (by rw [← e]; exact sV) p1 p2
    rw [e]
    exact ⟨V1, V2, hl, rfl, q.1, q.2⟩
  have HFM : Hid (∀ W V1 V2, V = V1 ++ V2 → SL k w0 blk off L W → SL k w0 blk off (mv P x V1 (V2 ++ Q) 0) W) := fun W V1 V2 e h => by rw [mv_zero, ← List.append_assoc V1, ← e, hL]; exact h
  have HCF : Hid (∀ x y, cf x y < 0 ↔ key x < key y) := hcf
  have HC : Aside _ := hC
  rw [hL] at S
  have S0 : Aside (SWK encI k w0 blk off L.toArray w) := S
  have hbn : b ≤ n := by omega
  have hma : (m : Int) - (a : Int) = 1 := by omega
  have HPL : Hid (P.length = a) := ha
  have HQL : Hid (n = a + 1 + V.length + Q.length) := by show _ = _; omega
  have HLA : Hid (L.toArray[a]! = x) := hLa
  clear S hC hcf gV hLa hV sV hL ha hn
  have hmb : m ≤ b := by omega
  clear hb
  go_enter Tryz.func135, Tryz.ntmps135
  go_wp2
  go_loopg [10, 11] (b - m) (fun kx s t wr => ∃ (i j : Nat), s = .int .i64 i ∧ t = .int .i64 j ∧ m ≤ i ∧ i ≤ j ∧ j ≤ b ∧ j - i ≤ kx ∧ Hid (i = m ∨ key L.toArray[i - 1]! < key x) ∧ Hid (j = b ∨ key x ≤ key L.toArray[j]!) ∧ Aside (SWK encI k w0 blk off L.toArray wr))
  case atStart => exact ⟨m, b, rfl, rfl, Nat.le_refl _, hmb, Nat.le_refl _, Nat.le_refl _, .inl rfl, .inl rfl, S0⟩
  case round =>
    clear S0
    obtain ⟨i, j, rfl, rfl, hmi, hij, hjb, hkx, HI, HJ, S1⟩ := hrel
    by_cases hlt : i < j
    · have hltz : (i : Int) < (j : Int) := by omega
      obtain ⟨h, hh⟩ : ∃ h, (i + j) / 2 = h := ⟨_, rfl⟩
      have h1 : i ≤ h := by omega
      have h2 : h < j := by omega
      have hu0 : IntKind.i64.wrap ((i : Int) + (j : Int)) = (i : Int) + (j : Int) := by rw [IntKind.wrap_i64]; omega
      have hu : IntKind.u64.wrap ((i : Int) + (j : Int)) = (i : Int) + (j : Int) := by rw [IntKind.wrap_u64]; omega
      have hv : ((i : Int) + (j : Int)) / 2 = (h : Int) := by omega
      clear hh
      go_wp2_with fail
      have hhn : (h : Int) < (n : Int) := by omega
      have han : (a : Int) < (n : Int) := by omega
      have h0 : (0 : Int) ≤ (h : Int) := by omega
      have a0 : (0 : Int) ≤ (a : Int) := by omega
      have la := S1.out.ld R (by omega) Tryz.prog h (by omega)
      have lb := S1.out.ld R (by omega) Tryz.prog a (by omega)
      have hc := S1.out.cmp HC.out hLn L.toArray[h]! L.toArray[a]!
      obtain ⟨y, hy⟩ : ∃ y, L.toArray[h]! = y := ⟨_, rfl⟩
      have HY : Hid (L.toArray[h]! = y) := hy
      rw [HLA.out] at lb hc
      rw [hy] at la hc
      clear hy
      by_cases hk : key y < key x
      · have hcv : cf y x < 0 := (HCF.out _ _).2 hk
        have hcd : decide (cf y x < 0) = true := decide_eq_true hcv
        go_quiet_grown (first | (go_at_fn g; refine Calls.grown_of (hc _ _)))
        have S2 : Aside (SWK encI k w0 blk off L.toArray (grow (wr.drewN nq) osq)) := S1.out.grown nq osq
        clear la lb hc S1
        generalize grow (wr.drewN nq) osq = w2 at S2 ⊢
        go_wp2
        go_roundg (j - (h + 1))
        case measure => omega
        case rel => exact ⟨h + 1, j, by go_num, rfl, by omega, by omega, hjb, Nat.le_refl _, .inr (by simp only [Nat.add_sub_cancel]; rw [HY.out]; exact hk), HJ, S2⟩
      · have hcv : ¬ cf y x < 0 := fun h => hk ((HCF.out _ _).1 h)
        have hcd : decide (cf y x < 0) = false := decide_eq_false hcv
        go_quiet_grown (first | (go_at_fn g; refine Calls.grown_of (hc _ _)))
        have S2 : Aside (SWK encI k w0 blk off L.toArray (grow (wr.drewN nq) osq)) := S1.out.grown nq osq
        clear la lb hc S1
        generalize grow (wr.drewN nq) osq = w2 at S2 ⊢
        go_wp2
        go_roundg (h - i)
        case measure => omega
        case rel => exact ⟨i, h, rfl, rfl, hmi, by omega, by omega, Nat.le_refl _, HI, .inr (by rw [HY.out]; omega), S2⟩
    · have hltz : ¬ (i : Int) < (j : Int) := by omega
      obtain rfl : i = j := by omega
      obtain ⟨V1, V2, hl, hVV, hM, hF⟩ := HFIN.out i hmi hjb HI.out HJ.out
      have HM : Hid (Srt key (V1 ++ (x :: V2)) ∧ FE key (x :: V) (V1 ++ (x :: V2))) := ⟨hM, hF⟩
      have S3 : Aside (SL k w0 blk off (mv P x V1 (V2 ++ Q) 0) wr) := HFM.out wr V1 V2 hVV S1.out
      have HLEN : Hid (∀ t, t ≤ i - m → (mv P x V1 (V2 ++ Q) t).toArray.size = n) := fun t ht => by
        have h1 := mv_len P x V1 (V2 ++ Q) t (by omega)
        have h2 := HPL.out
        have h3 := HQL.out
        have h4 : V.length = V1.length + V2.length := by rw [hVV, List.length_append]
        simp only [List.length_append, List.size_toArray] at h1 ⊢
        omega
      have HON : Hid (∀ t, t < i - m → swp (mv P x V1 (V2 ++ Q) t).toArray (a + t) (a + t + 1) = (mv P x V1 (V2 ++ Q) (t + 1)).toArray) := fun t ht => by rw [← HPL.out]; exact mv_on P x V1 (V2 ++ Q) t (by omega)
      have HALL : Hid (mv P x V1 (V2 ++ Q) (i - m) = P ++ ((V1 ++ (x :: V2)) ++ Q)) := by show _ = _; rw [← hl, mv_all]; simp
      obtain ⟨D, hD⟩ : ∃ D, D = mv P x V1 (V2 ++ Q) := ⟨_, rfl⟩
      obtain ⟨M, hMM⟩ : ∃ M, M = V1 ++ (x :: V2) := ⟨_, rfl⟩
      rw [← hD] at S3 HLEN HON HALL
      rw [← hMM] at HM HALL
      obtain ⟨c, hc⟩ : ∃ c, i - m = c := ⟨_, rfl⟩
      rw [hc] at HLEN HON HALL
      have hwi : IntKind.i64.wrap ((i : Int) - 1) = ((a + c : Nat) : Int) := by rw [IntKind.wrap_i64]; omega
      have hac : a + c + 1 ≤ n := by omega
      clear hD hMM hM hF hVV hl S1 HI HJ HFIN HFM hLn HLA HQL HPL hc
      go_wp2
      go_loopg [13] c (fun kx s wr => ∃ (t : Nat), s = .int .i64 ((a + t : Nat) : Int) ∧ t ≤ c ∧ c - t ≤ kx ∧ Aside (SWK encI k w0 blk off (D t).toArray wr))
      case atStart => exact ⟨0, by first | rfl | simp, Nat.zero_le _, by omega, S3⟩
      case round =>
        clear S3
        obtain ⟨t, rfl, htc, hkx2, S4⟩ := hrel
        have hst := HLEN.out t htc
        obtain ⟨p, hp⟩ : ∃ p, a + t = p := ⟨_, rfl⟩
        rw [hp]
        by_cases hlt2 : t < c
        · have hltz2 : (p : Int) < ((a + c : Nat) : Int) := by omega
          go_wp2_with fail
          have ba : (p : Int) < (n : Int) := by omega
          have pa : (0 : Int) ≤ (p : Int) := by omega
          have bc : (p : Int) + 1 < (n : Int) := by omega
          have pc : (0 : Int) ≤ (p : Int) + 1 := by omega
          have ec : ((p : Int) + 1).toNat = p + 1 := by omega
          have rc : IntKind.i64.wrap ((p : Int) + 1) = (p : Int) + 1 := by rw [IntKind.wrap_i64]; omega
          have S5 : Aside (SWK encI k w0 blk off (D (t + 1)).toArray ((wr.drew.setCells blk (off + p * k) (encI (D t).toArray[p + 1]!)).setCells blk (off + (p + 1) * k) (encI (D t).toArray[p]!))) := by
            show SWK _ _ _ _ _ _ _
            rw [← HON.out t hlt2, hp]
            exact S4.out.swapped R p (p + 1) (by omega) (by omega)
          have la := S4.out.ld1 R (by omega) Tryz.prog p (by omega)
          have lb := S4.out.ld1 R (by omega) Tryz.prog (p + 1) (by omega)
          have sa := S4.out.st1 R (by omega) Tryz.prog p (by omega) (D t).toArray[p + 1]!
          have sb := S4.out.st2 R (by omega) Tryz.prog p (p + 1) (by omega) (by omega) (D t).toArray[p + 1]! (D t).toArray[p]!
          have na : (encI (D t).toArray[p]!).length = k := HK3.out.symm
          have nb : (encI (D t).toArray[p + 1]!).length = k := HK3.out.symm
          generalize encI (D t).toArray[p]! = cI at S5 la sb na
          generalize encI (D t).toArray[p + 1]! = cJ at S5 lb sa sb nb
          clear S4
          go_wp2_with fail
          go_big_region_o
          clear la lb sa sb
          generalize (wr.drew.setCells blk (off + p * k) cJ).setCells blk (off + (p + 1) * k) cI = w2 at S5 ⊢
          go_wp2
          go_roundg (c - (t + 1))
          case measure => omega
          case rel => exact ⟨t + 1, by first | rfl | (congr 1; omega), by omega, Nat.le_refl _, S5⟩
        · have hltz2 : ¬ (p : Int) < ((a + c : Nat) : Int) := by omega
          obtain rfl : t = c := by omega
          go_wp2
          (try simp only [Exit.inBlock, Exit.then]); refine bodyPost_ret (results_none rfl _ _ _) rfl ?_
          refine ⟨rfl, M, HM.out.1, HM.out.2, ?_⟩
          rw [← HALL.out]
          exact S4.out
end Go.Proofs.YtlidgjkipbijlaaGreatDoor.nfd
end

section
/- A merge where the second part is one element: slices' symMergeCmpFunc. -/
set_option linter.unusedVariables false
set_option linter.unusedSimpArgs false
namespace Go.Proofs.YtlidgjkipbijlaaGreatDoor.nfd
open Go.Shelf Go.RowKit Go.Lib Go.Sort Go.Proofs

set_option maxHeartbeats 8000000 in
set_option maxRecDepth 1000000 in
theorem sym_last (k : Nat) (HK3 : Hid (k = 3)) (key : I → Int) (cf : I → I → Int) (hcf : ∀ x y, cf x y < 0 ↔ key x < key y) (g : Nat) (cb : Array Value) (blk off cap n a m b : Nat) (d0 : Array I) (w0 w : World)
    (eg : ∀ args w, (callFunc g args).run Tryz.prog w = .ok (.enter g args) w) (hC : CmpLays Tryz.prog g cb encI k cf blk off n w0) (R : RowK encI k w0 blk off d0) (P U Q : List I) (y : I) (hn : P.length + U.length + 1 + Q.length = n) (hd : d0.size = n) (hsz : n < 4611686018427387904)
    (ha : P.length = a) (hm : a + U.length = m) (hb : m + 1 = b) (hU : 1 < U.length) (sU : Srt key U) (S : SL k w0 blk off (P ++ (U ++ (y :: Q))) w) :
    Calls Tryz.prog 135 #[.slice (some ⟨blk, off, none⟩) n cap, .int .i64 a, .int .i64 m, .int .i64 b, .func (.func g) #[] cb] w fun e w' => e = .returned (.tuple #[]) ∧ ∃ M, Srt key M ∧ FE key (U ++ [y]) M ∧ SL k w0 blk off (P ++ (M ++ Q)) w' := by
  have mixed := mixed
  have aE := Tryz.isAgg30
  have zE := size_k k HK3
  obtain ⟨L, hL⟩ : ∃ L, P ++ (U ++ (y :: Q)) = L := ⟨_, rfl⟩
  have hLn : L.toArray.size = n := by rw [← hL]; simp; omega
  have hLm : L.toArray[m]! = y := by
    have := get_mid (P ++ U) Q y
    rw [List.append_assoc, hL, show (P ++ U).length = m by simp; omega] at this
    exact this
  have gU : ∀ j, a ≤ j → j < m → U[j - a]? = some L.toArray[j]! := fun j h1 h2 => by
    have := at_mid P U (y :: Q) j (by omega) (by omega)
    rw [hL, ha] at this
    exact this
  have HFIN : Hid (∀ i, a ≤ i → i ≤ m → (i = a ∨ key L.toArray[i - 1]! ≤ key y) → (i = m ∨ key y < key L.toArray[i]!) → ∃ U1 U2, U1.length = i - a ∧ U = U1 ++ U2 ∧ Srt key (U1 ++ (y :: U2)) ∧ FE key (U ++ [y]) (U1 ++ (y :: U2))) := fun i h1 h2 h3 h4 => by
    obtain ⟨U1, U2, e, hl, p1, p2⟩ := split_p key (fun v => key v ≤ key y) (fun a b h1 h2 => by omega) U sU (i - a) (by omega)
      (by rcases h3 with h3 | h3
          · exact .inl (by omega)
          · rcases Nat.lt_or_ge a i with h | h
            · exact .inr ⟨_, by rw [show i - a - 1 = i - 1 - a by omega]; exact gU (i - 1) (by omega) (by omega), h3⟩
            · exact .inl (by omega))
      (by rcases h4 with h4 | h4
          · exact .inl (by omega)
          · rcases Nat.lt_or_ge i m with h | h
            · exact .inr ⟨_, gU i h1 h, by omega⟩
            · exact .inl (by omega))
    have q := merge_last key y U1 U2 (by rw [← e]; exact sU) p1 p2
    rw [e]
    exact ⟨U1, U2, hl, rfl, q.1, q.2⟩
  have HFM : Hid (∀ W U1 U2, U = U1 ++ U2 → SL k w0 blk off L W → SL k w0 blk off (mv (P ++ U1) y U2 Q U2.length) W) := fun W U1 U2 e h => by rw [mv_all, List.append_assoc, ← List.append_assoc U1, ← e, hL]; exact h
  have HCF : Hid (∀ x y, cf x y < 0 ↔ key x < key y) := hcf
  have HC : Aside _ := hC
  rw [hL] at S
  have S0 : Aside (SWK encI k w0 blk off L.toArray w) := S
  have hmn : m < n := by omega
  have ham : a + 1 < m := by omega
  have hma : (((m : Int) - (a : Int)) == 1) = false := beq_eq_false_iff_ne.2 (by omega)
  have hmb : (b : Int) - (m : Int) = 1 := by omega
  have wma : IntKind.i64.wrap ((m : Int) - (a : Int)) = (m : Int) - (a : Int) := by rw [IntKind.wrap_i64]; omega
  have HPL : Hid (P.length = a) := ha
  have HUL : Hid (a + U.length = m) := hm
  have HQL : Hid (n = a + U.length + 1 + Q.length) := by show _ = _; omega
  have HLM : Hid (L.toArray[m]! = y) := hLm
  clear S hC hcf gU hLm hU sU hL ha hn hm
  clear hb
  go_enter Tryz.func135, Tryz.ntmps135
  go_wp2
  go_loopg [14, 15] (m - a) (fun kx s t wr => ∃ (i j : Nat), s = .int .i64 i ∧ t = .int .i64 j ∧ a ≤ i ∧ i ≤ j ∧ j ≤ m ∧ j - i ≤ kx ∧ Hid (i = a ∨ key L.toArray[i - 1]! ≤ key y) ∧ Hid (j = m ∨ key y < key L.toArray[j]!) ∧ Aside (SWK encI k w0 blk off L.toArray wr))
  case atStart => exact ⟨a, m, rfl, rfl, Nat.le_refl _, by omega, Nat.le_refl _, Nat.le_refl _, .inl rfl, .inl rfl, S0⟩
  case round =>
    clear S0
    obtain ⟨i, j, rfl, rfl, hmi, hij, hjb, hkx, HI, HJ, S1⟩ := hrel
    by_cases hlt : i < j
    · have hltz : (i : Int) < (j : Int) := by omega
      obtain ⟨h, hh⟩ : ∃ h, (i + j) / 2 = h := ⟨_, rfl⟩
      have h1 : i ≤ h := by omega
      have h2 : h < j := by omega
      have hu0 : IntKind.i64.wrap ((i : Int) + (j : Int)) = (i : Int) + (j : Int) := by rw [IntKind.wrap_i64]; omega
      have hu : IntKind.u64.wrap ((i : Int) + (j : Int)) = (i : Int) + (j : Int) := by rw [IntKind.wrap_u64]; omega
      have hv : ((i : Int) + (j : Int)) / 2 = (h : Int) := by omega
      clear hh
      go_wp2_with fail
      have hhn : (h : Int) < (n : Int) := by omega
      have han : (m : Int) < (n : Int) := by omega
      have h0 : (0 : Int) ≤ (h : Int) := by omega
      have a0 : (0 : Int) ≤ (m : Int) := by omega
      have la := S1.out.ld R (by omega) Tryz.prog h (by omega)
      have lb := S1.out.ld R (by omega) Tryz.prog m (by omega)
      have hc := S1.out.cmp HC.out hLn L.toArray[m]! L.toArray[h]!
      obtain ⟨x, hx⟩ : ∃ x, L.toArray[h]! = x := ⟨_, rfl⟩
      have HX : Hid (L.toArray[h]! = x) := hx
      rw [HLM.out] at lb hc
      rw [hx] at la hc
      clear hx
      by_cases hk : key y < key x
      · have hcv : cf y x < 0 := (HCF.out _ _).2 hk
        have hcd : decide (cf y x < 0) = true := decide_eq_true hcv
        go_quiet_grown (first | (go_at_fn g; refine Calls.grown_of (hc _ _)))
        have S2 : Aside (SWK encI k w0 blk off L.toArray (grow (wr.drewN nq) osq)) := S1.out.grown nq osq
        clear la lb hc S1
        generalize grow (wr.drewN nq) osq = w2 at S2 ⊢
        go_wp2
        go_roundg (h - i)
        case measure => omega
        case rel => exact ⟨i, h, rfl, rfl, hmi, by omega, by omega, Nat.le_refl _, HI, .inr (by rw [HX.out]; exact hk), S2⟩
      · have hcv : ¬ cf y x < 0 := fun h => hk ((HCF.out _ _).1 h)
        have hcd : decide (cf y x < 0) = false := decide_eq_false hcv
        go_quiet_grown (first | (go_at_fn g; refine Calls.grown_of (hc _ _)))
        have S2 : Aside (SWK encI k w0 blk off L.toArray (grow (wr.drewN nq) osq)) := S1.out.grown nq osq
        clear la lb hc S1
        generalize grow (wr.drewN nq) osq = w2 at S2 ⊢
        go_wp2
        go_roundg (j - (h + 1))
        case measure => omega
        case rel => exact ⟨h + 1, j, by go_num, rfl, by omega, by omega, hjb, Nat.le_refl _, .inr (by simp only [Nat.add_sub_cancel]; rw [HX.out]; omega), HJ, S2⟩
    · have hltz : ¬ (i : Int) < (j : Int) := by omega
      obtain rfl : i = j := by omega
      obtain ⟨U1, U2, hl, hUU, hM, hF⟩ := HFIN.out i hmi hjb HI.out HJ.out
      have HM : Hid (Srt key (U1 ++ (y :: U2)) ∧ FE key (U ++ [y]) (U1 ++ (y :: U2))) := ⟨hM, hF⟩
      have hl2 : U2.length = m - i := by have h4 : U.length = U1.length + U2.length := by rw [hUU, List.length_append]
                                         have := HUL.out; omega
      have S3 : Aside (SL k w0 blk off (mv (P ++ U1) y U2 Q (m - i)) wr) := by show SL _ _ _ _ _ _; rw [← hl2]; exact HFM.out wr U1 U2 hUU S1.out
      have HLEN : Hid (∀ t, t ≤ m - i → (mv (P ++ U1) y U2 Q t).toArray.size = n) := fun t ht => by
        have h1 := mv_len (P ++ U1) y U2 Q t (by omega)
        have h2 := HPL.out
        have h3 := HQL.out
        have h5 := HUL.out
        simp only [List.length_append, List.size_toArray] at h1 ⊢
        omega
      have HON : Hid (∀ t, t < m - i → swp (mv (P ++ U1) y U2 Q (t + 1)).toArray (i + t + 1) (i + t) = (mv (P ++ U1) y U2 Q t).toArray) := fun t ht => by
        have := mv_back (P ++ U1) y U2 Q t (by omega)
        rw [show (P ++ U1).length = i by have := HPL.out; simp; omega] at this
        exact this
      have HALL : Hid (mv (P ++ U1) y U2 Q 0 = P ++ ((U1 ++ (y :: U2)) ++ Q)) := by show _ = _; rw [mv_zero]; simp
      obtain ⟨D, hD⟩ : ∃ D, D = mv (P ++ U1) y U2 Q := ⟨_, rfl⟩
      obtain ⟨M, hMM⟩ : ∃ M, M = U1 ++ (y :: U2) := ⟨_, rfl⟩
      rw [← hD] at S3 HLEN HON HALL
      rw [← hMM] at HM HALL
      obtain ⟨c, hc⟩ : ∃ c, m - i = c := ⟨_, rfl⟩
      rw [hc] at HLEN HON S3
      clear hD hMM hM hF hUU hl hl2 S1 HI HJ HFIN HFM hLn HLM HQL HPL HUL
      go_wp2
      go_loopg [17] c (fun kx s wr => ∃ (t : Nat), s = .int .i64 ((i + t : Nat) : Int) ∧ t ≤ c ∧ t ≤ kx ∧ Aside (SWK encI k w0 blk off (D t).toArray wr))
      case atStart => exact ⟨c, by first | rfl | (congr 1; omega), Nat.le_refl _, Nat.le_refl _, S3⟩
      case round =>
        clear S3
        obtain ⟨t, rfl, htc, hkx2, S4⟩ := hrel
        have hst := HLEN.out t htc
        by_cases hlt2 : 0 < t
        · obtain ⟨t, rfl⟩ : ∃ q, t = q + 1 := ⟨t - 1, by omega⟩
          obtain ⟨p, hp⟩ : ∃ p, i + t = p := ⟨_, rfl⟩
          rw [show i + (t + 1) = p + 1 by omega]
          have hltz2 : (((p + 1 : Nat) : Int) > (i : Int)) := by omega
          have hltz3 : (i : Int) < (p : Int) + 1 := by omega
          go_wp2_with fail
          have ba : (p : Int) < (n : Int) := by omega
          have pa : (0 : Int) ≤ (p : Int) := by omega
          have bc : (p : Int) + 1 < (n : Int) := by omega
          have pc : (0 : Int) ≤ (p : Int) + 1 := by omega
          have ec : ((p : Int) + 1).toNat = p + 1 := by omega
          have rc : IntKind.i64.wrap (p : Int) = (p : Int) := by rw [IntKind.wrap_i64]; omega
          have S5 : Aside (SWK encI k w0 blk off (D t).toArray ((wr.drew.setCells blk (off + (p + 1) * k) (encI (D (t + 1)).toArray[p]!)).setCells blk (off + p * k) (encI (D (t + 1)).toArray[p + 1]!))) := by
            show SWK _ _ _ _ _ _ _
            rw [← HON.out t (by omega), hp]
            exact S4.out.swapped R (p + 1) p (by omega) (by omega)
          have la := S4.out.ld1 R (by omega) Tryz.prog p (by omega)
          have lb := S4.out.ld1 R (by omega) Tryz.prog (p + 1) (by omega)
          have sa := S4.out.st1 R (by omega) Tryz.prog (p + 1) (by omega) (D (t + 1)).toArray[p]!
          have sb := S4.out.st2 R (by omega) Tryz.prog (p + 1) p (by omega) (by omega) (D (t + 1)).toArray[p]! (D (t + 1)).toArray[p + 1]!
          have na : (encI (D (t + 1)).toArray[p]!).length = k := HK3.out.symm
          have nb : (encI (D (t + 1)).toArray[p + 1]!).length = k := HK3.out.symm
          generalize encI (D (t + 1)).toArray[p]! = cI at S5 la sa sb na
          generalize encI (D (t + 1)).toArray[p + 1]! = cJ at S5 lb sb nb
          clear S4
          go_wp2_with fail
          go_big_region_o
          clear la lb sa sb
          generalize (wr.drew.setCells blk (off + (p + 1) * k) cI).setCells blk (off + p * k) cJ = w2 at S5 ⊢
          go_wp2
          go_roundg t
          case measure => omega
          case rel => exact ⟨t, by first | rfl | (congr 1; omega), by omega, Nat.le_refl _, S5⟩
        · obtain rfl : t = 0 := by omega
          have hltz2 : ¬ (((i + 0 : Nat) : Int) > (i : Int)) := by omega
          go_wp2
          (try simp only [Exit.inBlock, Exit.then]); refine bodyPost_ret (results_none rfl _ _ _) rfl ?_
          refine ⟨rfl, M, HM.out.1, HM.out.2, ?_⟩
          rw [← HALL.out]
          exact S4.out
end Go.Proofs.YtlidgjkipbijlaaGreatDoor.nfd
end
