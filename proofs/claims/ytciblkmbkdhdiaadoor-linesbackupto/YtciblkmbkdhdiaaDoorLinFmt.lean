/- What strconv.FormatInt answers of a number at base 16: its digits, small. -/
import Derived.Test.YtciblkmbkdhdiaaDoorLinPoint
import Derived.Laws.IdiomStrings
import Derived.Laws.BitsLemmas
import Derived.Laws.ResultCell
import Derived.WalkSmall
import Derived.Handy
set_option linter.unusedVariables false
set_option linter.unusedSimpArgs false
namespace Go.Proofs.YtciblkmbkdhdiaaDoor.lin
open Go.RowKit

/-- A digit, small. -/
def dL (n : Nat) : UInt8 := if n < 10 then UInt8.ofNat (48 + n) else UInt8.ofNat (87 + n)
def lowL (n : Nat) : List UInt8 := if h : n < 16 then [dL n] else lowL (n / 16) ++ [dL (n % 16)]
termination_by n
decreasing_by omega
theorem lowL_small (n : Nat) (h : n < 16) : lowL n = [dL n] := by rw [lowL, dif_pos h]
theorem lowL_step (n : Nat) (h : 16 ≤ n) : lowL n = lowL (n / 16) ++ [dL (n % 16)] := by rw [lowL, dif_neg (by omega)]
theorem lowL_len : ∀ k n, n < 16 ^ (k + 1) → (lowL n).length ≤ k + 1 := by
  intro k
  induction k with
  | zero => intro n h; rw [lowL_small n (by simpa using h)]; simp
  | succ k ih =>
    intro n h
    rcases Nat.lt_or_ge n 16 with hn | hn
    · rw [lowL_small n hn]; simp
    · rw [lowL_step n hn, List.length_append, List.length_singleton]
      have := ih (n / 16) (by rw [Nat.pow_succ] at h; omega)
      omega

theorem lowL_pos (n : Nat) : 1 ≤ (lowL n).length := by
  rcases Nat.lt_or_ge n 16 with hn | hn
  · rw [lowL_small n hn]; simp
  · rw [lowL_step n hn, List.length_append, List.length_singleton]; omega
theorem wraps_u64' (n : Int) (h₀ : 0 ≤ n) (h₁ : n < 2 ^ 63) : IntKind.u64.wrap n = n := by
  simp [IntKind.wrap, IntKind.bits, IntKind.signed]
  omega
theorem u64_and15 (x : Nat) (h : x ≤ 1152921504606846975) : bits .and .u64 (x : Int) 15 = ((x % 16 : Nat) : Int) := by
  have := bits_mask .u64 63 (by decide) wraps_u64' 4 (by decide) (x : Int) (by omega) (by omega)
  exact this
def digs : ByteArray := ⟨#[48, 49, 50, 51, 52, 53, 54, 55, 56, 57, 97, 98, 99, 100, 101, 102, 103, 104, 105, 106, 107, 108, 109, 110, 111, 112, 113, 114, 115, 116, 117, 118, 119, 120, 121, 122]⟩
theorem digs_fin : ∀ d : Fin 16, (digs[d.val]'(Nat.lt_of_lt_of_le d.isLt (by decide))).toNat = (dL d.val).toNat := by decide +kernel
theorem digs_get (d : Nat) (h : d < 16) (hk : d < digs.size) : (digs[d]'hk).toNat = (dL d).toNat := digs_fin ⟨d, h⟩
/-- The array's cells from m on are the digits D. -/
def Tail (w : World) (A m : Nat) (D : List UInt8) : Prop :=
  ∃ cur, w.heap[A]? = some (.cells cur 127 (0, 0)) ∧ cur.size = 65 ∧ m + D.length = 65 ∧ ∀ (j : Nat) (x : UInt8), D[j]? = some x → cur[m + j]? = some (.int .u8 x.toNat)
theorem Tail.put {w : World} {A m : Nat} {D : List UInt8} (h : Tail w A (m + 1) D) (x : UInt8) : Tail (w.setCell ⟨A, m, none⟩ (.int .u8 x.toNat)) A m (x :: D) := by
  obtain ⟨cur, h1, h2, h3, h4⟩ := h
  refine ⟨_, heap_setCell_same w A m cur _ _ h1, by rw [Array.size_setIfInBounds]; exact h2, by simp; omega, ?_⟩
  intro j y hy
  cases j with
  | zero =>
    simp at hy
    subst hy
    rw [Nat.add_zero, Array.getElem?_setIfInBounds_self_of_lt (by omega)]
  | succ j =>
    rw [Array.getElem?_setIfInBounds_ne (by omega), show m + (j + 1) = m + 1 + j from by omega]
    exact h4 j y (by simpa using hy)

set_option maxHeartbeats 1000000 in
theorem zeros_any (w : World) (h : w.cell? ⟨6, 15, none⟩ = some (.int .u8 4)) :
    Calls Tryd.prog 104 #[.int .u64 16] w fun e w' => e = .returned (.int .i64 4) ∧ w' = w := by
  have e1 : bits BinOp.and IntKind.u64 16 (IntKind.u64.wrap (-16)) = 16 := by kernel_rfl
  have e2 : IntKind.u64.wrap 4573923408821661840 = 4573923408821661840 := by kernel_rfl
  go_enter Tryd.func104, Tryd.ntmps104
  go_wp2
  go_ret
  exact ⟨rfl, rfl⟩

set_option maxHeartbeats 1000000 in
theorem power_any (w : World) : Calls Tryd.prog 103 #[.int .i64 16] w fun e w' => e = .returned (.bool true) ∧ w' = w := by
  have e1 : bits BinOp.and IntKind.i64 16 15 = 0 := by kernel_rfl
  go_enter Tryd.func103, Tryd.ntmps103
  go_wp2
  go_ret
  exact ⟨rfl, rfl⟩

set_option maxHeartbeats 1000000 in
set_option maxRecDepth 100000 in
theorem bits_any (n : Nat) (w : World) (hn : n ≤ 1152921504606846975) (h : w.cell? ⟨6, 15, none⟩ = some (.int .u8 4)) (hlt : 6 < w.heap.size) :
    Calls Tryd.prog 86 #[.slice none 0 0, .int .u64 n, .int .i64 16, .bool false, .bool false] w fun e w' => e = .returned (.tuple #[.slice none 0 0, .string (BA (lowL n))]) ∧ Below w.heap.size w w' := by
  go_enter Tryd.func86, Tryd.ntmps86
  have TZ : ∀ o, Calls Tryd.prog 104 #[.int .u64 16] (w.alloc o) fun e w' => e = .returned (.int .i64 4) ∧ w' = w.alloc o := fun o => zeros_any _ ((World.cell?_of_block (w := w) (a := ⟨6, 15, none⟩) (Below.heap_alloc _ _ _ hlt)).trans h)
  go_wp2_with fail
  refine (power_any _).mono ?_
  rintro e w' ⟨rfl, rfl⟩
  go_wp2_with fail
  refine (TZ _).mono ?_
  rintro e w' ⟨rfl, rfl⟩
  clear TZ
  have hT0 : Tail (w.alloc (.cells Tryd.zeroCells127 127)) w.heap.size 65 [] := ⟨_, World.alloc_heap_new w _, by kernel_rfl, rfl, fun j x hx => by simp at hx⟩
  have hB0 : Below w.heap.size w (w.alloc (.cells Tryd.zeroCells127 127)) := (Below.refl _ w).alloc (Nat.le_refl _) _
  have HLN : Hid ((lowL n).length ≤ 16) := lowL_len 15 n (by omega)
  have HT0 : Hid (Tail (w.alloc (.cells Tryd.zeroCells127 127)) w.heap.size 65 []) := hT0
  clear hT0 h hlt
  generalize w.alloc (.cells Tryd.zeroCells127 127) = W0 at *
  go_wp2
  go_loopg [1, 13] n (fun k v t wr => ∃ (u m : Nat) (D : List UInt8), v = .int .u64 u ∧ t = .int .i64 m ∧ k = u ∧ u ≤ n ∧ m ≤ 65 ∧ D.length ≤ 15 ∧ Hid (lowL u ++ D = lowL n) ∧ Hid (Tail wr w.heap.size m D) ∧ Below w.heap.size w wr)
  case atStart => exact ⟨n, 65, [], rfl, rfl, rfl, Nat.le_refl _, Nat.le_refl _, by simp, by rw [Hid, List.append_nil], HT0, hB0⟩
  case round =>
    clear HT0 hB0
    obtain ⟨u, m, D, rfl, rfl, hgk, hun, hm65, hD, HH, HT, hbel⟩ := hrel
    have HGK : Hid (gk = u) := hgk
    clear hgk
    obtain ⟨cur, hc1, hc2, hc3, _⟩ := HT.out
    obtain ⟨m', rfl⟩ : ∃ m', m = m' + 1 := ⟨m - 1, by omega⟩
    obtain ⟨cv, cm⟩ : ∃ cv, wr.cell? ⟨w.heap.size, m', none⟩ = some cv := ⟨cur[ m' ]'(by omega), by rw [cell_of_row wr w.heap.size m' cur _ _ hc1]; exact Array.getElem?_eq_getElem (by omega)⟩
    have fm := frozen_of_row wr w.heap.size m' cur _ hc1
    have hb15 := u64_and15 u (by omega)
    have hsz : digs.size = 36 := rfl
    by_cases hu : 16 ≤ u
    · have hd16 : u % 16 < 16 := Nat.mod_lt _ (by decide)
      have t1 : (16 : Int) ≤ (u : Int) := by omega
      have hdg := digs_get (u % 16) hd16 (by omega)
      unfold digs at hdg
      have R1 : Hid (Tail (wr.setCell ⟨w.heap.size, m', none⟩ (.int .u8 ((dL (u % 16)).toNat : Int))) w.heap.size m' (dL (u % 16) :: D)) := HT.out.put _
      have R2 : Hid (lowL (u / 16) ++ (dL (u % 16) :: D) = lowL n) := by
        rw [Hid, ← HH.out, lowL_step u hu, List.append_assoc]; rfl
      have R3 : Hid ((dL (u % 16) :: D).length ≤ 15) := by
        have h1 := congrArg List.length R2.out
        rw [List.length_append] at h1
        have h2 := lowL_pos (u / 16)
        have h3 := HLN.out
        rw [Hid]; omega
      have R4 := hbel.setCell (p := ⟨w.heap.size, m', none⟩) (Nat.le_refl _) (.int .u8 ((dL (u % 16)).toNat : Int))
      clear hc1 hc3 HT HH hbel
      go_wp2
      go_roundg (u / 16)
      case measure => have := HGK.out; omega
      case rel => exact ⟨u / 16, m', dL (u % 16) :: D, rfl, rfl, rfl, by omega, by omega, R3.out, R2, R1, R4⟩
    · have t1 : ¬ (16 : Int) ≤ (u : Int) := by omega
      have hdg := digs_get u (by omega) (by omega)
      unfold digs at hdg
      have R1 := HT.out.put (dL u)
      have HE : Hid (lowL n = dL u :: D) := by
        rw [Hid, ← HH.out, lowL_small u (by omega)]; rfl
      have R4 := hbel.setCell (p := ⟨w.heap.size, m', none⟩) (Nat.le_refl _) (.int .u8 ((dL u).toNat : Int))
      have hcv : (convert 56 9 (.slice (some ⟨w.heap.size, m', none⟩) (65 - m') (65 - m'))).run Tryd.prog (wr.setCell ⟨w.heap.size, m', none⟩ (.int .u8 ((dL u).toNat : Int))) = .ok (.string (BA (lowL n))) (wr.setCell ⟨w.heap.size, m', none⟩ (.int .u8 ((dL u).toNat : Int))) := by
        obtain ⟨cur2, k1, k2, k3, k4⟩ := R1
        have hk : (lowL n).length = 65 - m' := by rw [HE.out]; omega
        have hh := run_convert_bytes_back (P := Tryd.prog) (wr.setCell ⟨w.heap.size, m', none⟩ (.int .u8 ((dL u).toNat : Int))) 56 9 5 ⟨w.heap.size, m', none⟩ (65 - m') (lowL n) Tryd.underlying56 Tryd.underlying5 Tryd.underlying9 (fun j hj => by
          rw [Addr.add_lit, cell_of_row _ _ _ cur2 _ _ k1]
          exact k4 j _ (by rw [← HE.out]; exact List.getElem?_eq_getElem hj))
        rw [hk] at hh
        exact hh
      have hsl : (Instr.sliceAt 127 (.pointer (some ⟨w.heap.size, 0, none⟩)) (some (.int .i64 m')) none none).run Tryd.prog (wr.setCell ⟨w.heap.size, m', none⟩ (.int .u8 ((dL u).toNat : Int))) = .ok (.slice (some ⟨w.heap.size, m', none⟩) (65 - m') (65 - m')) (wr.setCell ⟨w.heap.size, m', none⟩ (.int .u8 ((dL u).toNat : Int))) := by
        generalize (wr.setCell ⟨w.heap.size, m', none⟩ (.int .u8 ((dL u).toNat : Int))) = W
        have hal : Tryd.prog.arrayLen 127 = 65 := by simp [Program.arrayLen, Tryd.underlying127]
        have hel : Tryd.prog.elem 127 = 5 := by simp [Program.elem, Tryd.underlying127]
        rw [run_sliceAt_array_l W 127 ⟨w.heap.size, 0, none⟩ (by rw [hal, hel]; exact Tryd.underlying127) .i64 (m' : Int) (by omega) (by rw [hal]; omega), hal, hel]
        have hz1 : (sizeOf 5).run Tryd.prog W = .ok 1 W := by
          obtain ⟨iu, hiu, _, hs1, _⟩ := info_parts (P := Tryd.prog) (e := 5) (z := .int .u8 0) (size := 1) (bytes := 1) (by kernel_rfl)
          simp [sizeOf, typeInfo, hiu, hs1]
        rw [hz1]
        show Result.ok (slicedAt ⟨w.heap.size, 0, none⟩ (m' : Int).toNat 65 65 1) W = _
        unfold slicedAt
        rw [if_neg (by omega), Addr.add_lit, Int.toNat_natCast, Nat.zero_add, Nat.mul_one]
      clear hc1 hc3 HT HH hbel R1
      go_wp2
      go_ret2
      exact ⟨rfl, R4⟩

theorem ifmt_any (n : Nat) (w : World) (hn : n ≤ 1152921504606846975) (h : w.cell? ⟨6, 15, none⟩ = some (.int .u8 4)) (hlt : 6 < w.heap.size) :
    Calls Tryd.prog 65 #[.int .i64 n, .int .i64 16] w fun e w' => e = .returned (.string (BA (lowL n))) ∧ Below w.heap.size w w' := by
  have BI := bits_any n w hn h hlt
  have t0 : ¬ (n : Int) < 0 := by omega
  clear h
  go_enter Tryd.func65, Tryd.ntmps65
  go_wp2_with fail
  refine BI.mono ?_
  rintro e w2 ⟨rfl, hb⟩
  go_wp2
  go_ret
  exact ⟨rfl, hb⟩
theorem fmt_any (n : Nat) (w : World) (hn : n ≤ 1152921504606846975) (h : w.cell? ⟨6, 15, none⟩ = some (.int .u8 4)) (hlt : 6 < w.heap.size) :
    Calls Tryd.prog 46 #[.int .i64 n, .int .i64 16] w fun e w' => e = .returned (.string (BA (lowL n))) ∧ Below w.heap.size w w' := by
  have BI := ifmt_any n w hn h hlt
  clear h
  go_enter Tryd.func46, Tryd.ntmps46
  go_wp2_with fail
  refine BI.mono ?_
  rintro e w2 ⟨rfl, hb⟩
  go_wp2
  go_ret
  exact ⟨rfl, hb⟩
end Go.Proofs.YtciblkmbkdhdiaaDoor.lin
