/- Texts that the proof leans on, one behind the other. -/
import Derived.Test.YtlgkfnecahgedaaGreatDoorBdTok9
import Derived.LoopN

section
/- The document's way of reading tokens says the same as the program's. -/
set_option linter.unusedVariables false
set_option linter.unusedSimpArgs false
namespace Go.Proofs.YtlgkfnecahgedaaGreatDoor.tok
open Go.RowKit
open lin (BA)

section
variable (f : Nat → Int) (n : Nat)
theorem octet_lt {a : Nat} (h : a < n) : octet f n a = .ok (f a) (a + 1) := by unfold octet; rw [if_pos h]
theorem octet_ge {a : Nat} (h : ¬ a < n) : octet f n a = .no 130 n := by unfold octet; rw [if_neg h]
theorem at_eq (a : Nat) (c : Int) : at_ f n a c = true ↔ a < n ∧ f a = c := by unfold at_; simp
theorem at_ne (a : Nat) (c : Int) : at_ f n a c = false ↔ ¬ (a < n ∧ f a = c) := by rw [← at_eq f n a c]; simp
theorem want_lt {st : Nat} {c : Int} {a : Nat} (h : a < n) (hc : f a = c) : want f n st c a = .ok () (a + 1) := by unfold want; rw [octet_lt f n h, bind_ok, if_pos hc]
theorem want_no {st : Nat} {c : Int} {a : Nat} (h : a < n) (hc : ¬ f a = c) : want f n st c a = nope f st := by unfold want; rw [octet_lt f n h, bind_ok, if_neg hc]
theorem want_ge {st : Nat} {c : Int} {a : Nat} (h : ¬ a < n) : want f n st c a = .no 130 n := by unfold want; rw [octet_ge f n h, bind_no]

/-- {g} or {w} behind \b. -/
theorem edge_ref (st : Nat) (x y z : Int) (a : Nat) (ha : a ≤ n) : edge f n st x y z a =
    if hasB f n a [123] = true then
      (if hasB f n a [123, 103, 125] = true then .ok (asrt y) (a + 3)
      else if hasB f n a [123, 119, 125] = true then .ok (asrt z) (a + 3)
      else if endsB f n a [123, 103, 125] = true ∨ endsB f n a [123, 119, 125] = true then .no 130 n else nope f st)
    else .ok (asrt x) a := by
  have e1 : hasB f n a [123] = at_ f n a 123 := by simp [hasB]
  have e2 : hasB f n a [123, 103, 125] = (at_ f n a 123 && (at_ f n (a + 1) 103 && at_ f n (a + 2) 125)) := by simp [hasB]
  have e3 : hasB f n a [123, 119, 125] = (at_ f n a 123 && (at_ f n (a + 1) 119 && at_ f n (a + 2) 125)) := by simp [hasB]
  have e4 : endsB f n a [123, 103, 125] = (decide (n ≤ a) || (at_ f n a 123 && (decide (n ≤ a + 1) || (at_ f n (a + 1) 103 && decide (n ≤ a + 2))))) := by simp [endsB]
  have e5 : endsB f n a [123, 119, 125] = (decide (n ≤ a) || (at_ f n a 123 && (decide (n ≤ a + 1) || (at_ f n (a + 1) 119 && decide (n ≤ a + 2))))) := by simp [endsB]
  unfold edge
  cases h0 : at_ f n a 123 with
  | false => simp [e1, h0]
  | true =>
    have h0' := (at_eq f n a 123).1 h0
    have hna : ¬ n ≤ a := by omega
    by_cases h1 : a + 1 < n
    · have hnb : ¬ n ≤ a + 1 := by omega
      by_cases g : f (a + 1) = 103
      · have k1 : at_ f n (a + 1) 103 = true := (at_eq f n _ _).2 ⟨h1, g⟩
        have k2 : at_ f n (a + 1) 119 = false := (at_ne f n _ _).2 (fun q => by omega)
        by_cases h2 : a + 2 < n
        · have hnc : ¬ n ≤ a + 2 := by omega
          by_cases g2 : f (a + 2) = 125
          · have k3 : at_ f n (a + 2) 125 = true := (at_eq f n _ _).2 ⟨h2, g2⟩
            simp [e1, e2, e3, e4, e5, h0, k1, k2, k3, octet_lt f n h1, bind_ok, g, want_lt f n (st := st) h2 g2]
          · have k3 : at_ f n (a + 2) 125 = false := (at_ne f n _ _).2 (fun q => g2 q.2)
            simp [e1, e2, e3, e4, e5, h0, k1, k2, k3, octet_lt f n h1, bind_ok, bind_no, g, want_no f n (st := st) h2 g2, hna, hnb, hnc, nope]
        · have k3 : at_ f n (a + 2) 125 = false := (at_ne f n _ _).2 (fun q => h2 q.1)
          have hnc : n ≤ a + 2 := by omega
          simp [e1, e2, e3, e4, e5, h0, k1, k2, k3, octet_lt f n h1, bind_ok, bind_no, g, want_ge f n (st := st) (c := 125) h2, hna, hnb, hnc]
      · have k1 : at_ f n (a + 1) 103 = false := (at_ne f n _ _).2 (fun q => g q.2)
        by_cases g' : f (a + 1) = 119
        · have k2 : at_ f n (a + 1) 119 = true := (at_eq f n _ _).2 ⟨h1, g'⟩
          by_cases h2 : a + 2 < n
          · have hnc : ¬ n ≤ a + 2 := by omega
            by_cases g2 : f (a + 2) = 125
            · have k3 : at_ f n (a + 2) 125 = true := (at_eq f n _ _).2 ⟨h2, g2⟩
              simp [e1, e2, e3, e4, e5, h0, k1, k2, k3, octet_lt f n h1, bind_ok, g', want_lt f n (st := st) h2 g2]
            · have k3 : at_ f n (a + 2) 125 = false := (at_ne f n _ _).2 (fun q => g2 q.2)
              simp [e1, e2, e3, e4, e5, h0, k1, k2, k3, octet_lt f n h1, bind_ok, bind_no, g', want_no f n (st := st) h2 g2, hna, hnb, hnc, nope]
          · have k3 : at_ f n (a + 2) 125 = false := (at_ne f n _ _).2 (fun q => h2 q.1)
            have hnc : n ≤ a + 2 := by omega
            simp [e1, e2, e3, e4, e5, h0, k1, k2, k3, octet_lt f n h1, bind_ok, bind_no, g', want_ge f n (st := st) (c := 125) h2, hna, hnb, hnc]
        · have k2 : at_ f n (a + 1) 119 = false := (at_ne f n _ _).2 (fun q => g' q.2)
          simp [e1, e2, e3, e4, e5, h0, k1, k2, octet_lt f n h1, bind_ok, g, g', hna, hnb]
    · have k1 : at_ f n (a + 1) 103 = false := (at_ne f n _ _).2 (fun q => h1 q.1)
      have k2 : at_ f n (a + 1) 119 = false := (at_ne f n _ _).2 (fun q => h1 q.1)
      have hnb : n ≤ a + 1 := by omega
      simp [e1, e2, e3, e4, e5, h0, k1, k2, octet_ge f n h1, bind_no, hna, hnb]

/-- Numbers, all digits first. -/
theorem number_ref (st m a : Nat) (ha : a ≤ n) : number f n st 10 m a =
    if n ≤ a + cntD digitB f n m a then .no 130 n else if cntD digitB f n m a = 0 ∨ digitB (f (a + cntD digitB f n m a)) = true then nope f st else .ok (numV f n m a, f (a + cntD digitB f n m a)) (a + cntD digitB f n m a + 1) := by
  unfold number
  rw [numR_cnt digitB 10 digit_dg f n st m 0 true a ha]
  unfold numV
  by_cases h0 : cntD digitB f n m a = 0
  · simp [h0]
  · simp [h0]
theorem numV_neg (m a : Nat) (hf : ∀ i, 0 ≤ f i ∧ f i ≤ 255) (hm : m ≤ 3) : (numV f n m a < 0 ↔ cntD digitB f n m a = 0) ∧ numV f n m a ≤ 1000 ∧ -1 ≤ numV f n m a := by
  unfold numV
  have hc := cntD_le digitB f n m a
  by_cases h0 : cntD digitB f n m a = 0
  · rw [if_pos h0]; exact ⟨⟨fun _ => h0, fun _ => by decide⟩, by decide, by decide⟩
  · rw [if_neg h0]
    have := valD_small f hf (cntD digitB f n m a) a (fun j hj => (cntD_at digitB f n m a j hj).2) (by omega)
    have h3 : (10 : Int) ^ (cntD digitB f n m a) ≤ 1000 := by
      rcases (show cntD digitB f n m a = 1 ∨ cntD digitB f n m a = 2 ∨ cntD digitB f n m a = 3 by omega) with h | h | h <;> rw [h] <;> decide
    exact ⟨⟨fun h => by omega, fun h => absurd h h0⟩, by omega, by omega⟩
/-- \k{N} -/
theorem backN_ref (st a : Nat) (ha : a ≤ n) (hf : ∀ i, 0 ≤ f i ∧ f i ≤ 255) : ((number f n st 10 2 a).bind fun q a => if q.2 = 125 ∧ 0 < q.1 then .ok (⟨9, 0, q.1, 0, [], false, 0, 0⟩ : Tk) a else nope f st) =
    if n ≤ a + cntD digitB f n 2 a then .no 130 n else if numV f n 2 a < 1 ∨ ¬ f (a + cntD digitB f n 2 a) = 125 then nope f st else .ok ⟨9, 0, numV f n 2 a, 0, [], false, 0, 0⟩ (a + cntD digitB f n 2 a + 1) := by
  rw [number_ref f n st 2 a ha]
  have hv := numV_neg f n 2 a hf (by decide)
  by_cases h1 : n ≤ a + cntD digitB f n 2 a
  · rw [if_pos h1, if_pos h1, bind_no]
  · rw [if_neg h1, if_neg h1]
    by_cases h2 : cntD digitB f n 2 a = 0
    · rw [if_pos (.inl h2), if_pos (.inl (by have := hv.1.2 h2; omega))]; rfl
    · by_cases h3 : digitB (f (a + cntD digitB f n 2 a)) = true
      · rw [if_pos (.inr h3), if_pos (.inr (fun e => by rw [e] at h3; exact absurd h3 (by decide)))]; rfl
      · rw [if_neg (fun h => h.elim h2 h3), bind_ok]
        simp only []
        by_cases h4 : f (a + cntD digitB f n 2 a) = 125 ∧ 0 < numV f n 2 a
        · rw [if_pos h4, if_neg (fun h => h.elim (fun h => by omega) (fun h => h h4.1))]
        · rw [if_neg h4]
          by_cases h5 : numV f n 2 a < 1
          · rw [if_pos (.inl h5)]
          · rw [if_pos (.inr (fun h => h4 ⟨h, by omega⟩))]
end
end Go.Proofs.YtlgkfnecahgedaaGreatDoor.tok
end

section
/- The document's scanner and the token that it fills. -/
set_option linter.unusedVariables false
set_option linter.unusedSimpArgs false
namespace Go.Proofs.YtlgkfnecahgedaaGreatDoor.tok
open Go.RowKit
open lin (BA Turns)

/-- Beside the document's scanner, in block tb, lies the token t. -/
structure RT (w : World) (rb tb : Nat) (ao : Option Addr) (n cap : Nat) (f : Nat → Int) (a k : Nat) (c p : Int) (t : Tk) : Prop where
  rs : Rs w rb ao n cap f a k c p
  tk : w.heap[tb]? = some (.cells #[.int .i64 t.kind, .int .i64 t.mode, .int .i64 t.a, .int .i64 t.b, .string (BA t.name), .bool t.neg, .int .i64 t.s, .int .i64 t.e] 32 (0, 0))
  ne : tb ≠ rb
  nb : ∀ b off, ao = some ⟨b, off, none⟩ → tb ≠ b
abbrev T2 (rb tb : Nat) (w w' : World) : Prop := Turns (fun q => q = rb ∨ q = tb) w w'
theorem RT.cells {w : World} {rb tb : Nat} {ao : Option Addr} {n cap : Nat} {f : Nat → Int} {a k : Nat} {c p : Int} {t : Tk} (h : RT w rb tb ao n cap f a k c p t) :
    (w.cell? ⟨rb, 0, none⟩ = some (.slice ao n cap) ∧ w.cell? ⟨rb, 1, none⟩ = some (.int .i64 a) ∧ w.cell? ⟨rb, 2, none⟩ = some (.int .i64 k) ∧ w.frozen? ⟨rb, 1, none⟩ = false ∧ w.frozen? ⟨rb, 2, none⟩ = false) ∧
    (w.cell? ⟨tb, 0, none⟩ = some (.int .i64 t.kind) ∧ w.cell? ⟨tb, 1, none⟩ = some (.int .i64 t.mode) ∧ w.cell? ⟨tb, 2, none⟩ = some (.int .i64 t.a) ∧ w.cell? ⟨tb, 3, none⟩ = some (.int .i64 t.b) ∧ w.cell? ⟨tb, 4, none⟩ = some (.string (BA t.name)) ∧ w.cell? ⟨tb, 5, none⟩ = some (.bool t.neg) ∧ w.cell? ⟨tb, 6, none⟩ = some (.int .i64 t.s) ∧ w.cell? ⟨tb, 7, none⟩ = some (.int .i64 t.e)) ∧
    (w.frozen? ⟨tb, 0, none⟩ = false ∧ w.frozen? ⟨tb, 1, none⟩ = false ∧ w.frozen? ⟨tb, 2, none⟩ = false ∧ w.frozen? ⟨tb, 3, none⟩ = false ∧ w.frozen? ⟨tb, 4, none⟩ = false ∧ w.frozen? ⟨tb, 5, none⟩ = false ∧ w.frozen? ⟨tb, 6, none⟩ = false ∧ w.frozen? ⟨tb, 7, none⟩ = false) := by
  obtain ⟨c0, c1, c2, -, -, -, z1, z2, -, -⟩ := h.rs.cells
  exact ⟨⟨c0, c1, c2, z1, z2⟩, blk8 h.tk⟩
theorem RT.call {w' : World} {a' k' : Nat} {c' p' : Int} {w : World} {rb tb : Nat} {ao : Option Addr} {n cap : Nat} {f : Nat → Int} {a k : Nat} {c p : Int} {t : Tk} (h : RT w rb tb ao n cap f a k c p t) (h' : Rs w' rb ao n cap f a' k' c' p') (t' : Tn rb w w') : RT w' rb tb ao n cap f a' k' c' p' t := ⟨h', Tn.blk t' h.tk h.ne, h.ne, h.nb⟩
theorem RT.drewN {w : World} {rb tb : Nat} {ao : Option Addr} {n cap : Nat} {f : Nat → Int} {a k : Nat} {c p : Int} {t : Tk} (h : RT w rb tb ao n cap f a k c p t) (q : Nat) : RT (w.drewN q) rb tb ao n cap f a k c p t := h.call (h.rs.drewN q) (Tn.drewN (lin.Turns.refl _ w) q)
theorem RT.below {w' : World} {w : World} {rb tb : Nat} {ao : Option Addr} {n cap : Nat} {f : Nat → Int} {a k : Nat} {c p : Int} {t : Tk} (h : RT w rb tb ao n cap f a k c p t) (hb : Below w.heap.size w w') : RT w' rb tb ao n cap f a k c p t := h.call (h.rs.below hb) (.of_below hb)
theorem RT.put1 {w : World} {rb tb : Nat} {ao : Option Addr} {n cap : Nat} {f : Nat → Int} {a k : Nat} {c p : Int} {t : Tk} (h : RT w rb tb ao n cap f a k c p t) {x : Int} {a' : Nat} (hx : x = a') (ha : a' ≤ n) : RT (w.setCell ⟨rb, 1, none⟩ (.int .i64 x)) rb tb ao n cap f a' k c p t := h.call (h.rs.put1 hx ha) (Tn.put (lin.Turns.refl _ w) 1 _)
theorem RT.put2 {w : World} {rb tb : Nat} {ao : Option Addr} {n cap : Nat} {f : Nat → Int} {a k : Nat} {c p : Int} {t : Tk} (h : RT w rb tb ao n cap f a k c p t) {x : Int} {k' : Nat} (hx : x = k') (hk : k' ≤ 1000000) : RT (w.setCell ⟨rb, 2, none⟩ (.int .i64 x)) rb tb ao n cap f a k' c p t := h.call (h.rs.put2 hx hk) (Tn.put (lin.Turns.refl _ w) 2 _)
theorem RT.other {q : Addr} {v : Value} {w : World} {rb tb : Nat} {ao : Option Addr} {n cap : Nat} {f : Nat → Int} {a k : Nat} {c p : Int} {t : Tk} (h : RT w rb tb ao n cap f a k c p t) (hq : q.block = tb) : Rs (w.setCell q v) rb ao n cap f a k c p := h.rs.set (by rw [hq]; exact h.ne) (fun b off e => by rw [hq]; exact h.nb b off e)
theorem T2.of {rb tb : Nat} {w w' : World} (h : Tn rb w w') : T2 rb tb w w' := lin.Turns.mono h (fun k e => .inl e)
theorem T2.then {rb tb : Nat} {w w' w'' : World} (h : T2 rb tb w w') (h' : Tn rb w' w'') : T2 rb tb w w'' := h.trans (T2.of h')
theorem T2.put {rb tb : Nat} {w w' : World} (h : T2 rb tb w w') (i : Nat) (v : Value) : T2 rb tb w (w'.setCell ⟨tb, i, none⟩ v) := h.trans ⟨rfl, rfl, rfl, by simp, fun k _ hk => heap_setCell_other _ _ _ _ (fun e => hk (.inr e))⟩
theorem T2.at {rb tb : Nat} {w w' : World} (h : T2 rb tb w w') (i : Nat) (v : Value) : T2 rb tb w (w'.setCell ⟨rb, i, none⟩ v) := h.trans ⟨rfl, rfl, rfl, by simp, fun k _ hk => heap_setCell_other _ _ _ _ (fun e => hk (.inl e))⟩
theorem T2.drewN {rb tb : Nat} {w w' : World} (h : T2 rb tb w w') (q : Nat) : T2 rb tb w (w'.drewN q) := ⟨h.os, h.tape, h.output, h.size, h.block⟩
theorem RT.t0 {w : World} {rb tb : Nat} {ao : Option Addr} {n cap : Nat} {f : Nat → Int} {a k : Nat} {c p : Int} {t : Tk} (h : RT w rb tb ao n cap f a k c p t) (x : Int) : RT (w.setCell ⟨tb, 0, none⟩ (.int .i64 x)) rb tb ao n cap f a k c p { t with kind := x } := by
  refine ⟨h.other rfl, ?_, h.ne, h.nb⟩
  have := heap_setCell_same w tb 0 _ _ (.int .i64 x) h.tk
  simpa only [List.setIfInBounds_toArray, List.set_cons_zero, List.set_cons_succ] using this
theorem RT.t1 {w : World} {rb tb : Nat} {ao : Option Addr} {n cap : Nat} {f : Nat → Int} {a k : Nat} {c p : Int} {t : Tk} (h : RT w rb tb ao n cap f a k c p t) (x : Int) : RT (w.setCell ⟨tb, 1, none⟩ (.int .i64 x)) rb tb ao n cap f a k c p { t with mode := x } := by
  refine ⟨h.other rfl, ?_, h.ne, h.nb⟩
  have := heap_setCell_same w tb 1 _ _ (.int .i64 x) h.tk
  simpa only [List.setIfInBounds_toArray, List.set_cons_zero, List.set_cons_succ] using this
theorem RT.t2 {w : World} {rb tb : Nat} {ao : Option Addr} {n cap : Nat} {f : Nat → Int} {a k : Nat} {c p : Int} {t : Tk} (h : RT w rb tb ao n cap f a k c p t) (x : Int) : RT (w.setCell ⟨tb, 2, none⟩ (.int .i64 x)) rb tb ao n cap f a k c p { t with a := x } := by
  refine ⟨h.other rfl, ?_, h.ne, h.nb⟩
  have := heap_setCell_same w tb 2 _ _ (.int .i64 x) h.tk
  simpa only [List.setIfInBounds_toArray, List.set_cons_zero, List.set_cons_succ] using this
theorem RT.t3 {w : World} {rb tb : Nat} {ao : Option Addr} {n cap : Nat} {f : Nat → Int} {a k : Nat} {c p : Int} {t : Tk} (h : RT w rb tb ao n cap f a k c p t) (x : Int) : RT (w.setCell ⟨tb, 3, none⟩ (.int .i64 x)) rb tb ao n cap f a k c p { t with b := x } := by
  refine ⟨h.other rfl, ?_, h.ne, h.nb⟩
  have := heap_setCell_same w tb 3 _ _ (.int .i64 x) h.tk
  simpa only [List.setIfInBounds_toArray, List.set_cons_zero, List.set_cons_succ] using this
theorem RT.t4 {w : World} {rb tb : Nat} {ao : Option Addr} {n cap : Nat} {f : Nat → Int} {a k : Nat} {c p : Int} {t : Tk} (h : RT w rb tb ao n cap f a k c p t) (x : List UInt8) : RT (w.setCell ⟨tb, 4, none⟩ (.string (BA x))) rb tb ao n cap f a k c p { t with name := x } := by
  refine ⟨h.other rfl, ?_, h.ne, h.nb⟩
  have := heap_setCell_same w tb 4 _ _ (.string (BA x)) h.tk
  simpa only [List.setIfInBounds_toArray, List.set_cons_zero, List.set_cons_succ] using this
theorem RT.t5 {w : World} {rb tb : Nat} {ao : Option Addr} {n cap : Nat} {f : Nat → Int} {a k : Nat} {c p : Int} {t : Tk} (h : RT w rb tb ao n cap f a k c p t) (x : Bool) : RT (w.setCell ⟨tb, 5, none⟩ (.bool x)) rb tb ao n cap f a k c p { t with neg := x } := by
  refine ⟨h.other rfl, ?_, h.ne, h.nb⟩
  have := heap_setCell_same w tb 5 _ _ (.bool x) h.tk
  simpa only [List.setIfInBounds_toArray, List.set_cons_zero, List.set_cons_succ] using this
theorem RT.t7 {w : World} {rb tb : Nat} {ao : Option Addr} {n cap : Nat} {f : Nat → Int} {a k : Nat} {c p : Int} {t : Tk} (h : RT w rb tb ao n cap f a k c p t) (x : Nat) : RT (w.setCell ⟨tb, 7, none⟩ (.int .i64 (x : Int))) rb tb ao n cap f a k c p { t with e := x } := by
  refine ⟨h.other rfl, ?_, h.ne, h.nb⟩
  have := heap_setCell_same w tb 7 _ _ (.int .i64 (x : Int)) h.tk
  simpa only [List.setIfInBounds_toArray, List.set_cons_zero, List.set_cons_succ] using this
/-- How a method that fills a token ends. -/
def REt (w : World) (rb tb : Nat) (ao : Option Addr) (n cap : Nat) (f : Nat → Int) (k : Nat) (c p : Int) (st : Nat) : Out Tk → Ending → World → Prop
  | .ok t a', e, w' => e = .returned (.bool true) ∧ RT w' rb tb ao n cap f a' k c p { t with s := st } ∧ T2 rb tb w w'
  | .no c' p', e, w' => e = .returned (.bool false) ∧ (∃ a' t', RT w' rb tb ao n cap f a' k c' p' t') ∧ T2 rb tb w w'
end Go.Proofs.YtlgkfnecahgedaaGreatDoor.tok
end

section
/- The document's scanner's methods, beside a token. -/
set_option linter.unusedVariables false
set_option linter.unusedSimpArgs false
namespace Go.Proofs.YtlgkfnecahgedaaGreatDoor.tok
open Go.RowKit
open lin (BA Turns)

theorem has_t {w W : World} {rb tb : Nat} {ao : Option Addr} {n cap : Nat} {f : Nat → Int} {a k : Nat} {c p : Int} {t : Tk} (S : RT W rb tb ao n cap f a k c p t) (T : T2 rb tb w W) (l : List UInt8) (hl : 0 < l.length) (hl2 : l.length ≤ 100) :
    Calls Tryz.prog 27 #[.pointer (some ⟨rb, 0, none⟩), .string (BA l)] W fun e w' => e = .returned (.bool (hasB f n a l)) ∧ RT w' rb tb ao n cap f a k c p t ∧ T2 rb tb w w' :=
  (has_any rb ao n cap f a k c p W S.rs l hl hl2).mono fun e w' h => by obtain ⟨q, h1, h2⟩ := h; exact ⟨h1, by rw [h2]; exact S.drewN q, by rw [h2]; exact T2.drewN T q⟩
theorem ends_t {w W : World} {rb tb : Nat} {ao : Option Addr} {n cap : Nat} {f : Nat → Int} {a k : Nat} {c p : Int} {t : Tk} (S : RT W rb tb ao n cap f a k c p t) (T : T2 rb tb w W) (l : List UInt8) (hl2 : l.length ≤ 100) :
    Calls Tryz.prog 83 #[.pointer (some ⟨rb, 0, none⟩), .string (BA l)] W fun e w' => e = .returned (.bool (endsB f n a l)) ∧ RT w' rb tb ao n cap f a k c p t ∧ T2 rb tb w w' :=
  (ends_any rb ao n cap f a k c p W S.rs l hl2).mono fun e w' h => by obtain ⟨q, h1, h2⟩ := h; exact ⟨h1, by rw [h2]; exact S.drewN q, by rw [h2]; exact T2.drewN T q⟩
theorem fail_t {w W : World} {rb tb : Nat} {ao : Option Addr} {n cap : Nat} {f : Nat → Int} {a k : Nat} {c p : Int} {t : Tk} (S : RT W rb tb ao n cap f a k c p t) (T : T2 rb tb w W) (x y : Int) :
    Calls Tryz.prog 47 #[.pointer (some ⟨rb, 0, none⟩), .int .i64 x, .int .i64 y] W fun e w' => e = .returned (.bool false) ∧ RT w' rb tb ao n cap f a k x y t ∧ T2 rb tb w w' :=
  (fail_any rb ao n cap f a k c p W S.rs x y).mono fun e w' h => ⟨h.1, S.call h.2.1 h.2.2, T2.then T h.2.2⟩
theorem number_t {w W : World} {rb tb : Nat} {ao : Option Addr} {n cap : Nat} {f : Nat → Int} {a k : Nat} {c p : Int} {t : Tk} (S : RT W rb tb ao n cap f a k c p t) (T : T2 rb tb w W) (m : Nat) (hm : m ≤ 3) :
    Calls Tryz.prog 115 #[.pointer (some ⟨rb, 0, none⟩), .int .i64 m] W fun e w' => e = .returned (.int .i64 (numV f n m a)) ∧ RT w' rb tb ao n cap f (a + cntD digitB f n m a) k c p t ∧ T2 rb tb w w' :=
  (rnumber_any rb ao n cap f a k c p W S.rs m hm).mono fun e w' h => ⟨h.1, S.call h.2.1 h.2.2, T2.then T h.2.2⟩
theorem rest_t {w W : World} {rb tb : Nat} {ao : Option Addr} {n cap : Nat} {f : Nat → Int} {a k : Nat} {c p : Int} {t : Tk} (S : RT W rb tb ao n cap f a k c p t) (T : T2 rb tb w W) :
    Calls Tryz.prog 44 #[.pointer (some ⟨rb, 0, none⟩)] W fun e w' => e = .returned (.slice (rA ao a cap) (n - a) (cap - a)) ∧ RT w' rb tb ao n cap f a k c p t ∧ T2 rb tb w w' :=
  (rest_any rb ao n cap f a k c p W S.rs).mono fun e w' h => by obtain ⟨q, h1, h2⟩ := h; exact ⟨h1, by rw [h2]; exact S.drewN q, by rw [h2]; exact T2.drewN T q⟩
/-- What is left, where something is. -/
theorem rest_lt {w W : World} {rb tb : Nat} {ao : Option Addr} {n cap : Nat} {f : Nat → Int} {a k : Nat} {c p : Int} {t : Tk} (S : RT W rb tb ao n cap f a k c p t) (T : T2 rb tb w W) (ha : a < n) :
    Calls Tryz.prog 44 #[.pointer (some ⟨rb, 0, none⟩)] W fun e w' => ∃ gb go, e = .returned (.slice (some ⟨gb, go, none⟩) (n - a) (cap - a)) ∧ w'.cell? ⟨gb, go, none⟩ = some (.int .u8 (f a)) ∧ gb ≠ rb ∧ gb ≠ tb ∧ RT w' rb tb ao n cap f a k c p t ∧ T2 rb tb w w' := by
  obtain ⟨b, off, rfl, hb, -⟩ := S.rs.byt
  have hcc := S.rs.cc
  refine (rest_t S T).mono ?_
  rintro e w' ⟨rfl, S', T'⟩
  obtain ⟨b', off', e', hb', hc⟩ := S'.rs.byt
  cases e'
  exact ⟨b, off + a, by rw [rA_lt b off a cap (by omega)], hc a ha, hb, fun e => S.nb b off rfl e.symm, S', T'⟩
end Go.Proofs.YtlgkfnecahgedaaGreatDoor.tok
end

section
/- The document's tokens of classes. -/
set_option linter.unusedVariables false
set_option linter.unusedSimpArgs false
namespace Go.Proofs.YtlgkfnecahgedaaGreatDoor.tok
open Go.RowKit
open lin (BA Turns)

def RCl (w : World) (rb tb : Nat) (ao : Option Addr) (n cap : Nat) (f : Nat → Int) (a k : Nat) (c p : Int) (st : Nat) : Option (Tk × Nat × Nat) → Ending → World → Prop
  | some (t, k', a'), e, w' => e = .returned (.bool true) ∧ RT w' rb tb ao n cap f a' k' c p { t with s := st } ∧ T2 rb tb w w'
  | none, e, w' => e = .returned (.bool false) ∧ RT w' rb tb ao n cap f a k c p ⟨0, 0, 0, 0, [], false, st, 0⟩ ∧ T2 rb tb w w'
theorem cell_of_block {w : World} {g : Nat} {cs : Array Value} {t : TypeId} {fr : Nat × Nat} (h : w.heap[g]? = some (.cells cs t fr)) (i : Nat) : w.cell? ⟨g, i, none⟩ = cs[i]? := by simp [World.cell?, h]
end Go.Proofs.YtlgkfnecahgedaaGreatDoor.tok
end

section
/- The document's tokens of classes. -/
set_option linter.unusedVariables false
set_option linter.unusedSimpArgs false
namespace Go.Proofs.YtlgkfnecahgedaaGreatDoor.tok
open Go.RowKit
open lin (BA Turns)

set_option maxHeartbeats 4000000 in
set_option maxRecDepth 100000 in
theorem rcl_s1 (rb tb : Nat) (ao : Option Addr) (n cap : Nat) (f : Nat → Int) (a k : Nat) (c p : Int) (st : Nat) (w : World) (h : RT w rb tb ao n cap f a k c p ⟨0, 0, 0, 0, [], false, st, 0⟩) (hk : 0 < k) (hk2 : k < 1000000) (hl : a + 2 ≤ n) (q0 : hasB f n (a) [38, 38] = true) :
    Calls Tryz.prog 25 #[.pointer (some ⟨rb, 0, none⟩), .pointer (some ⟨tb, 0, none⟩)] w (RCl w rb tb ao n cap f a k c p st (some (setT 1, k, a + 2))) := by
  have Q0 : Hid (hasB f n (a) [38, 38] = true) := q0
  clear q0
  have hk3 : (0 : Int) < (k : Int) := by omega
  have hne : ¬ tb = rb := h.ne
  have hne' : ¬ rb = tb := fun e => h.ne e.symm
  have hn := h.rs.nn
  have ha := h.rs.aa
  have hcc := h.rs.cc
  have hcm := h.rs.cm
  have hrl := h.rs.lt
  have htl : tb < w.heap.size := (Array.getElem?_eq_some_iff.1 h.tk).1
  obtain ⟨W, hW⟩ : ∃ W, w.alloc (.cells #[.string ⟨#[38, 38]⟩, .string ⟨#[45, 45]⟩, .string ⟨#[126, 126]⟩] 9) = W := ⟨_, rfl⟩
  have BW : Below w.heap.size w W := by rw [← hW]; exact (Below.refl _ _).alloc (Nat.le_refl _) _
  have HAW : Hid (T2 rb tb w W) := lin.Turns.of_below BW
  have S0 : RT W rb tb ao n cap f a k c p _ := h.below BW
  have U0 : T2 rb tb W W := lin.Turns.refl _ W
  have GB : W.heap[w.heap.size]? = some (.cells #[.string ⟨#[38, 38]⟩, .string ⟨#[45, 45]⟩, .string ⟨#[126, 126]⟩] 9 (0, 0)) := by rw [← hW]; exact World.alloc_heap_new _ _
  have hgl : w.heap.size < W.heap.size := by rw [← hW]; simp
  have HGN : Hid (¬ (w.heap.size = rb ∨ w.heap.size = tb)) := by unfold Hid; omega
  have HGL : Hid (w.heap.size < W.heap.size) := hgl
  clear BW hgl hrl htl
  clear h
  obtain ⟨⟨c0, c1, c2, z1, z2⟩, ⟨k0, k1, k2, k3, k4, k5, k6, k7⟩, ⟨f0, f1, f2, f3, f4, f5, f6, f7⟩⟩ := S0.cells
  have gb0 := cell_of_block GB 0
  have gb1 := cell_of_block GB 1
  have gb2 := cell_of_block GB 2
  simp only [List.getElem?_toArray, List.getElem?_cons_zero, List.getElem?_cons_succ] at gb0 gb1 gb2
  go_enter Tryz.func25, Tryz.ntmps25
  have GB0 := GB
  go_wp2
  refine wp_loop_rounds 4 ?_
  rw [rounds_succ]
  have C := has_t S0 U0 [38, 38] (by decide) (by decide)
  rw [Q0.out] at C
  go_wp2_with fail
  refine C.mono ?_
  rintro e w1 ⟨rfl, S1, U1⟩
  clear C S0 U0
  clear c0 c1 c2 z1 z2 k0 k1 k2 k3 k4 k5 k6 k7 f0 f1 f2 f3 f4 f5 f6 f7
  clear gb0 gb1 gb2
  have GB1 := (U1.block _ HGL.out HGN.out).trans GB0
  obtain ⟨⟨c0, c1, c2, z1, z2⟩, ⟨k0, k1, k2, k3, k4, k5, k6, k7⟩, ⟨f0, f1, f2, f3, f4, f5, f6, f7⟩⟩ := S1.cells
  have gb0 := cell_of_block GB1 0
  have gb1 := cell_of_block GB1 1
  have gb2 := cell_of_block GB1 2
  simp only [List.getElem?_toArray, List.getElem?_cons_zero, List.getElem?_cons_succ] at gb0 gb1 gb2
  have S2 := S1.t0 14
  have U2 := T2.put U1 0 (.int .i64 14)
  clear S1 U1
  have S3 := S2.t1 1
  have U3 := T2.put U2 1 (.int .i64 1)
  clear S2 U2
  have S4 := S3.put1 (x := ((a : Nat) : Int) + 2) (a' := a + 2) (by omega) (by omega)
  have U4 := T2.at U3 1 (.int .i64 (((a : Nat) : Int) + 2))
  clear S3 U3
  go_wp2
  go_ret
  exact ⟨rfl, S4, (lin.Turns.trans HAW.out U4)⟩
set_option maxHeartbeats 4000000 in
set_option maxRecDepth 100000 in
theorem rcl_s2 (rb tb : Nat) (ao : Option Addr) (n cap : Nat) (f : Nat → Int) (a k : Nat) (c p : Int) (st : Nat) (w : World) (h : RT w rb tb ao n cap f a k c p ⟨0, 0, 0, 0, [], false, st, 0⟩) (hk : 0 < k) (hk2 : k < 1000000) (hl : a + 2 ≤ n) (q0 : hasB f n (a) [38, 38] = false) (q1 : hasB f n (a) [45, 45] = true) :
    Calls Tryz.prog 25 #[.pointer (some ⟨rb, 0, none⟩), .pointer (some ⟨tb, 0, none⟩)] w (RCl w rb tb ao n cap f a k c p st (some (setT 2, k, a + 2))) := by
  have Q0 : Hid (hasB f n (a) [38, 38] = false) := q0
  clear q0
  have Q1 : Hid (hasB f n (a) [45, 45] = true) := q1
  clear q1
  have hk3 : (0 : Int) < (k : Int) := by omega
  have hne : ¬ tb = rb := h.ne
  have hne' : ¬ rb = tb := fun e => h.ne e.symm
  have hn := h.rs.nn
  have ha := h.rs.aa
  have hcc := h.rs.cc
  have hcm := h.rs.cm
  have hrl := h.rs.lt
  have htl : tb < w.heap.size := (Array.getElem?_eq_some_iff.1 h.tk).1
  obtain ⟨W, hW⟩ : ∃ W, w.alloc (.cells #[.string ⟨#[38, 38]⟩, .string ⟨#[45, 45]⟩, .string ⟨#[126, 126]⟩] 9) = W := ⟨_, rfl⟩
  have BW : Below w.heap.size w W := by rw [← hW]; exact (Below.refl _ _).alloc (Nat.le_refl _) _
  have HAW : Hid (T2 rb tb w W) := lin.Turns.of_below BW
  have S0 : RT W rb tb ao n cap f a k c p _ := h.below BW
  have U0 : T2 rb tb W W := lin.Turns.refl _ W
  have GB : W.heap[w.heap.size]? = some (.cells #[.string ⟨#[38, 38]⟩, .string ⟨#[45, 45]⟩, .string ⟨#[126, 126]⟩] 9 (0, 0)) := by rw [← hW]; exact World.alloc_heap_new _ _
  have hgl : w.heap.size < W.heap.size := by rw [← hW]; simp
  have HGN : Hid (¬ (w.heap.size = rb ∨ w.heap.size = tb)) := by unfold Hid; omega
  have HGL : Hid (w.heap.size < W.heap.size) := hgl
  clear BW hgl hrl htl
  clear h
  obtain ⟨⟨c0, c1, c2, z1, z2⟩, ⟨k0, k1, k2, k3, k4, k5, k6, k7⟩, ⟨f0, f1, f2, f3, f4, f5, f6, f7⟩⟩ := S0.cells
  have gb0 := cell_of_block GB 0
  have gb1 := cell_of_block GB 1
  have gb2 := cell_of_block GB 2
  simp only [List.getElem?_toArray, List.getElem?_cons_zero, List.getElem?_cons_succ] at gb0 gb1 gb2
  go_enter Tryz.func25, Tryz.ntmps25
  have GB0 := GB
  go_wp2
  refine wp_loop_rounds 4 ?_
  rw [rounds_succ]
  have C := has_t S0 U0 [38, 38] (by decide) (by decide)
  rw [Q0.out] at C
  go_wp2_with fail
  refine C.mono ?_
  rintro e w1 ⟨rfl, S1, U1⟩
  clear C S0 U0
  clear c0 c1 c2 z1 z2 k0 k1 k2 k3 k4 k5 k6 k7 f0 f1 f2 f3 f4 f5 f6 f7
  clear gb0 gb1 gb2
  have GB1 := (U1.block _ HGL.out HGN.out).trans GB0
  obtain ⟨⟨c0, c1, c2, z1, z2⟩, ⟨k0, k1, k2, k3, k4, k5, k6, k7⟩, ⟨f0, f1, f2, f3, f4, f5, f6, f7⟩⟩ := S1.cells
  have gb0 := cell_of_block GB1 0
  have gb1 := cell_of_block GB1 1
  have gb2 := cell_of_block GB1 2
  simp only [List.getElem?_toArray, List.getElem?_cons_zero, List.getElem?_cons_succ] at gb0 gb1 gb2
  go_wp2
  rw [rounds_succ]
  have C := has_t S1 U1 [45, 45] (by decide) (by decide)
  rw [Q1.out] at C
  go_wp2_with fail
  refine C.mono ?_
  rintro e w2 ⟨rfl, S2, U2⟩
  clear C S1 U1
  clear c0 c1 c2 z1 z2 k0 k1 k2 k3 k4 k5 k6 k7 f0 f1 f2 f3 f4 f5 f6 f7
  clear gb0 gb1 gb2
  have GB2 := (U2.block _ HGL.out HGN.out).trans GB0
  obtain ⟨⟨c0, c1, c2, z1, z2⟩, ⟨k0, k1, k2, k3, k4, k5, k6, k7⟩, ⟨f0, f1, f2, f3, f4, f5, f6, f7⟩⟩ := S2.cells
  have gb0 := cell_of_block GB2 0
  have gb1 := cell_of_block GB2 1
  have gb2 := cell_of_block GB2 2
  simp only [List.getElem?_toArray, List.getElem?_cons_zero, List.getElem?_cons_succ] at gb0 gb1 gb2
  have S3 := S2.t0 14
  have U3 := T2.put U2 0 (.int .i64 14)
  clear S2 U2
  have S4 := S3.t1 2
  have U4 := T2.put U3 1 (.int .i64 2)
  clear S3 U3
  have S5 := S4.put1 (x := ((a : Nat) : Int) + 2) (a' := a + 2) (by omega) (by omega)
  have U5 := T2.at U4 1 (.int .i64 (((a : Nat) : Int) + 2))
  clear S4 U4
  go_wp2
  go_ret
  exact ⟨rfl, S5, (lin.Turns.trans HAW.out U5)⟩
set_option maxHeartbeats 4000000 in
set_option maxRecDepth 100000 in
theorem rcl_s3 (rb tb : Nat) (ao : Option Addr) (n cap : Nat) (f : Nat → Int) (a k : Nat) (c p : Int) (st : Nat) (w : World) (h : RT w rb tb ao n cap f a k c p ⟨0, 0, 0, 0, [], false, st, 0⟩) (hk : 0 < k) (hk2 : k < 1000000) (hl : a + 2 ≤ n) (q0 : hasB f n (a) [38, 38] = false) (q1 : hasB f n (a) [45, 45] = false) (q2 : hasB f n (a) [126, 126] = true) :
    Calls Tryz.prog 25 #[.pointer (some ⟨rb, 0, none⟩), .pointer (some ⟨tb, 0, none⟩)] w (RCl w rb tb ao n cap f a k c p st (some (setT 3, k, a + 2))) := by
  have Q0 : Hid (hasB f n (a) [38, 38] = false) := q0
  clear q0
  have Q1 : Hid (hasB f n (a) [45, 45] = false) := q1
  clear q1
  have Q2 : Hid (hasB f n (a) [126, 126] = true) := q2
  clear q2
  have hk3 : (0 : Int) < (k : Int) := by omega
  have hne : ¬ tb = rb := h.ne
  have hne' : ¬ rb = tb := fun e => h.ne e.symm
  have hn := h.rs.nn
  have ha := h.rs.aa
  have hcc := h.rs.cc
  have hcm := h.rs.cm
  have hrl := h.rs.lt
  have htl : tb < w.heap.size := (Array.getElem?_eq_some_iff.1 h.tk).1
  obtain ⟨W, hW⟩ : ∃ W, w.alloc (.cells #[.string ⟨#[38, 38]⟩, .string ⟨#[45, 45]⟩, .string ⟨#[126, 126]⟩] 9) = W := ⟨_, rfl⟩
  have BW : Below w.heap.size w W := by rw [← hW]; exact (Below.refl _ _).alloc (Nat.le_refl _) _
  have HAW : Hid (T2 rb tb w W) := lin.Turns.of_below BW
  have S0 : RT W rb tb ao n cap f a k c p _ := h.below BW
  have U0 : T2 rb tb W W := lin.Turns.refl _ W
  have GB : W.heap[w.heap.size]? = some (.cells #[.string ⟨#[38, 38]⟩, .string ⟨#[45, 45]⟩, .string ⟨#[126, 126]⟩] 9 (0, 0)) := by rw [← hW]; exact World.alloc_heap_new _ _
  have hgl : w.heap.size < W.heap.size := by rw [← hW]; simp
  have HGN : Hid (¬ (w.heap.size = rb ∨ w.heap.size = tb)) := by unfold Hid; omega
  have HGL : Hid (w.heap.size < W.heap.size) := hgl
  clear BW hgl hrl htl
  clear h
  obtain ⟨⟨c0, c1, c2, z1, z2⟩, ⟨k0, k1, k2, k3, k4, k5, k6, k7⟩, ⟨f0, f1, f2, f3, f4, f5, f6, f7⟩⟩ := S0.cells
  have gb0 := cell_of_block GB 0
  have gb1 := cell_of_block GB 1
  have gb2 := cell_of_block GB 2
  simp only [List.getElem?_toArray, List.getElem?_cons_zero, List.getElem?_cons_succ] at gb0 gb1 gb2
  go_enter Tryz.func25, Tryz.ntmps25
  have GB0 := GB
  go_wp2
  refine wp_loop_rounds 4 ?_
  rw [rounds_succ]
  have C := has_t S0 U0 [38, 38] (by decide) (by decide)
  rw [Q0.out] at C
  go_wp2_with fail
  refine C.mono ?_
  rintro e w1 ⟨rfl, S1, U1⟩
  clear C S0 U0
  clear c0 c1 c2 z1 z2 k0 k1 k2 k3 k4 k5 k6 k7 f0 f1 f2 f3 f4 f5 f6 f7
  clear gb0 gb1 gb2
  have GB1 := (U1.block _ HGL.out HGN.out).trans GB0
  obtain ⟨⟨c0, c1, c2, z1, z2⟩, ⟨k0, k1, k2, k3, k4, k5, k6, k7⟩, ⟨f0, f1, f2, f3, f4, f5, f6, f7⟩⟩ := S1.cells
  have gb0 := cell_of_block GB1 0
  have gb1 := cell_of_block GB1 1
  have gb2 := cell_of_block GB1 2
  simp only [List.getElem?_toArray, List.getElem?_cons_zero, List.getElem?_cons_succ] at gb0 gb1 gb2
  go_wp2
  rw [rounds_succ]
  have C := has_t S1 U1 [45, 45] (by decide) (by decide)
  rw [Q1.out] at C
  go_wp2_with fail
  refine C.mono ?_
  rintro e w2 ⟨rfl, S2, U2⟩
  clear C S1 U1
  clear c0 c1 c2 z1 z2 k0 k1 k2 k3 k4 k5 k6 k7 f0 f1 f2 f3 f4 f5 f6 f7
  clear gb0 gb1 gb2
  have GB2 := (U2.block _ HGL.out HGN.out).trans GB0
  obtain ⟨⟨c0, c1, c2, z1, z2⟩, ⟨k0, k1, k2, k3, k4, k5, k6, k7⟩, ⟨f0, f1, f2, f3, f4, f5, f6, f7⟩⟩ := S2.cells
  have gb0 := cell_of_block GB2 0
  have gb1 := cell_of_block GB2 1
  have gb2 := cell_of_block GB2 2
  simp only [List.getElem?_toArray, List.getElem?_cons_zero, List.getElem?_cons_succ] at gb0 gb1 gb2
  go_wp2
  rw [rounds_succ]
  have C := has_t S2 U2 [126, 126] (by decide) (by decide)
  rw [Q2.out] at C
  go_wp2_with fail
  refine C.mono ?_
  rintro e w3 ⟨rfl, S3, U3⟩
  clear C S2 U2
  clear c0 c1 c2 z1 z2 k0 k1 k2 k3 k4 k5 k6 k7 f0 f1 f2 f3 f4 f5 f6 f7
  clear gb0 gb1 gb2
  have GB3 := (U3.block _ HGL.out HGN.out).trans GB0
  obtain ⟨⟨c0, c1, c2, z1, z2⟩, ⟨k0, k1, k2, k3, k4, k5, k6, k7⟩, ⟨f0, f1, f2, f3, f4, f5, f6, f7⟩⟩ := S3.cells
  have gb0 := cell_of_block GB3 0
  have gb1 := cell_of_block GB3 1
  have gb2 := cell_of_block GB3 2
  simp only [List.getElem?_toArray, List.getElem?_cons_zero, List.getElem?_cons_succ] at gb0 gb1 gb2
  have S4 := S3.t0 14
  have U4 := T2.put U3 0 (.int .i64 14)
  clear S3 U3
  have S5 := S4.t1 3
  have U5 := T2.put U4 1 (.int .i64 3)
  clear S4 U4
  have S6 := S5.put1 (x := ((a : Nat) : Int) + 2) (a' := a + 2) (by omega) (by omega)
  have U6 := T2.at U5 1 (.int .i64 (((a : Nat) : Int) + 2))
  clear S5 U5
  go_wp2
  go_ret
  exact ⟨rfl, S6, (lin.Turns.trans HAW.out U6)⟩
end Go.Proofs.YtlgkfnecahgedaaGreatDoor.tok
end

section
/- The document's tokens of classes (TokRef15b). -/
set_option linter.unusedVariables false
set_option linter.unusedSimpArgs false
namespace Go.Proofs.YtlgkfnecahgedaaGreatDoor.tok
open Go.RowKit
open lin (BA Turns)

set_option maxHeartbeats 4000000 in
set_option maxRecDepth 100000 in
theorem rcl_n (rb tb : Nat) (ao : Option Addr) (n cap : Nat) (f : Nat → Int) (a k : Nat) (c p : Int) (st : Nat) (w : World) (h : RT w rb tb ao n cap f a k c p ⟨0, 0, 0, 0, [], false, st, 0⟩) (hk : 0 < k) (hk2 : k < 1000000) (hl : a + 2 ≤ n) (q0 : hasB f n (a) [38, 38] = false) (q1 : hasB f n (a) [45, 45] = false) (q2 : hasB f n (a) [126, 126] = false) (p0 : hasB f n (a) [91] = true) (p1 : hasB f n (a + 1) [94] = true) :
    Calls Tryz.prog 25 #[.pointer (some ⟨rb, 0, none⟩), .pointer (some ⟨tb, 0, none⟩)] w (RCl w rb tb ao n cap f a k c p st (some (classT true, k + 1, a + 2))) := by
  have Q0 : Hid (hasB f n (a) [38, 38] = false) := q0
  clear q0
  have Q1 : Hid (hasB f n (a) [45, 45] = false) := q1
  clear q1
  have Q2 : Hid (hasB f n (a) [126, 126] = false) := q2
  clear q2
  have P0 : Hid (hasB f n (a) [91] = true) := p0
  clear p0
  have P1 : Hid (hasB f n (a + 1) [94] = true) := p1
  clear p1
  have hk3 : (0 : Int) < (k : Int) := by omega
  have hne : ¬ tb = rb := h.ne
  have hne' : ¬ rb = tb := fun e => h.ne e.symm
  have hn := h.rs.nn
  have ha := h.rs.aa
  have hcc := h.rs.cc
  have hcm := h.rs.cm
  have hrl := h.rs.lt
  have htl : tb < w.heap.size := (Array.getElem?_eq_some_iff.1 h.tk).1
  obtain ⟨W, hW⟩ : ∃ W, w.alloc (.cells #[.string ⟨#[38, 38]⟩, .string ⟨#[45, 45]⟩, .string ⟨#[126, 126]⟩] 9) = W := ⟨_, rfl⟩
  have BW : Below w.heap.size w W := by rw [← hW]; exact (Below.refl _ _).alloc (Nat.le_refl _) _
  have HAW : Hid (T2 rb tb w W) := lin.Turns.of_below BW
  have S0 : RT W rb tb ao n cap f a k c p _ := h.below BW
  have U0 : T2 rb tb W W := lin.Turns.refl _ W
  have GB : W.heap[w.heap.size]? = some (.cells #[.string ⟨#[38, 38]⟩, .string ⟨#[45, 45]⟩, .string ⟨#[126, 126]⟩] 9 (0, 0)) := by rw [← hW]; exact World.alloc_heap_new _ _
  have hgl : w.heap.size < W.heap.size := by rw [← hW]; simp
  have HGN : Hid (¬ (w.heap.size = rb ∨ w.heap.size = tb)) := by unfold Hid; omega
  have HGL : Hid (w.heap.size < W.heap.size) := hgl
  clear BW hgl hrl htl
  clear h
  obtain ⟨⟨c0, c1, c2, z1, z2⟩, ⟨k0, k1, k2, k3, k4, k5, k6, k7⟩, ⟨f0, f1, f2, f3, f4, f5, f6, f7⟩⟩ := S0.cells
  have gb0 := cell_of_block GB 0
  have gb1 := cell_of_block GB 1
  have gb2 := cell_of_block GB 2
  simp only [List.getElem?_toArray, List.getElem?_cons_zero, List.getElem?_cons_succ] at gb0 gb1 gb2
  go_enter Tryz.func25, Tryz.ntmps25
  have GB0 := GB
  go_wp2
  refine wp_loop_rounds 4 ?_
  rw [rounds_succ]
  have C := has_t S0 U0 [38, 38] (by decide) (by decide)
  rw [Q0.out] at C
  go_wp2_with fail
  refine C.mono ?_
  rintro e w1 ⟨rfl, S1, U1⟩
  clear C S0 U0
  clear c0 c1 c2 z1 z2 k0 k1 k2 k3 k4 k5 k6 k7 f0 f1 f2 f3 f4 f5 f6 f7
  clear gb0 gb1 gb2
  have GB1 := (U1.block _ HGL.out HGN.out).trans GB0
  obtain ⟨⟨c0, c1, c2, z1, z2⟩, ⟨k0, k1, k2, k3, k4, k5, k6, k7⟩, ⟨f0, f1, f2, f3, f4, f5, f6, f7⟩⟩ := S1.cells
  have gb0 := cell_of_block GB1 0
  have gb1 := cell_of_block GB1 1
  have gb2 := cell_of_block GB1 2
  simp only [List.getElem?_toArray, List.getElem?_cons_zero, List.getElem?_cons_succ] at gb0 gb1 gb2
  go_wp2
  rw [rounds_succ]
  have C := has_t S1 U1 [45, 45] (by decide) (by decide)
  rw [Q1.out] at C
  go_wp2_with fail
  refine C.mono ?_
  rintro e w2 ⟨rfl, S2, U2⟩
  clear C S1 U1
  clear c0 c1 c2 z1 z2 k0 k1 k2 k3 k4 k5 k6 k7 f0 f1 f2 f3 f4 f5 f6 f7
  clear gb0 gb1 gb2
  have GB2 := (U2.block _ HGL.out HGN.out).trans GB0
  obtain ⟨⟨c0, c1, c2, z1, z2⟩, ⟨k0, k1, k2, k3, k4, k5, k6, k7⟩, ⟨f0, f1, f2, f3, f4, f5, f6, f7⟩⟩ := S2.cells
  have gb0 := cell_of_block GB2 0
  have gb1 := cell_of_block GB2 1
  have gb2 := cell_of_block GB2 2
  simp only [List.getElem?_toArray, List.getElem?_cons_zero, List.getElem?_cons_succ] at gb0 gb1 gb2
  go_wp2
  rw [rounds_succ]
  have C := has_t S2 U2 [126, 126] (by decide) (by decide)
  rw [Q2.out] at C
  go_wp2_with fail
  refine C.mono ?_
  rintro e w3 ⟨rfl, S3, U3⟩
  clear C S2 U2
  clear c0 c1 c2 z1 z2 k0 k1 k2 k3 k4 k5 k6 k7 f0 f1 f2 f3 f4 f5 f6 f7
  clear gb0 gb1 gb2
  have GB3 := (U3.block _ HGL.out HGN.out).trans GB0
  obtain ⟨⟨c0, c1, c2, z1, z2⟩, ⟨k0, k1, k2, k3, k4, k5, k6, k7⟩, ⟨f0, f1, f2, f3, f4, f5, f6, f7⟩⟩ := S3.cells
  have gb0 := cell_of_block GB3 0
  have gb1 := cell_of_block GB3 1
  have gb2 := cell_of_block GB3 2
  simp only [List.getElem?_toArray, List.getElem?_cons_zero, List.getElem?_cons_succ] at gb0 gb1 gb2
  go_wp2
  rw [rounds_succ]
  have C := has_t S3 U3 [91] (by decide) (by decide)
  rw [P0.out] at C
  go_wp2_with fail
  refine C.mono ?_
  rintro e w4 ⟨rfl, S4, U4⟩
  clear C S3 U3
  clear c0 c1 c2 z1 z2 k0 k1 k2 k3 k4 k5 k6 k7 f0 f1 f2 f3 f4 f5 f6 f7
  clear gb0 gb1 gb2
  have GB4 := (U4.block _ HGL.out HGN.out).trans GB0
  obtain ⟨⟨c0, c1, c2, z1, z2⟩, ⟨k0, k1, k2, k3, k4, k5, k6, k7⟩, ⟨f0, f1, f2, f3, f4, f5, f6, f7⟩⟩ := S4.cells
  have gb0 := cell_of_block GB4 0
  have gb1 := cell_of_block GB4 1
  have gb2 := cell_of_block GB4 2
  simp only [List.getElem?_toArray, List.getElem?_cons_zero, List.getElem?_cons_succ] at gb0 gb1 gb2
  have S5 := S4.t0 11
  have U5 := T2.put U4 0 (.int .i64 11)
  clear S4 U4
  have S6 := S5.put1 (x := ((a : Nat) : Int) + 1) (a' := a + 1) (by omega) (by omega)
  have U6 := T2.at U5 1 (.int .i64 (((a : Nat) : Int) + 1))
  clear S5 U5
  have C := has_t S6 U6 [94] (by decide) (by decide)
  rw [P1.out] at C
  go_wp2_with fail
  refine C.mono ?_
  rintro e w7 ⟨rfl, S7, U7⟩
  clear C S6 U6
  clear c0 c1 c2 z1 z2 k0 k1 k2 k3 k4 k5 k6 k7 f0 f1 f2 f3 f4 f5 f6 f7
  clear gb0 gb1 gb2
  have GB7 := (U7.block _ HGL.out HGN.out).trans GB0
  obtain ⟨⟨c0, c1, c2, z1, z2⟩, ⟨k0, k1, k2, k3, k4, k5, k6, k7⟩, ⟨f0, f1, f2, f3, f4, f5, f6, f7⟩⟩ := S7.cells
  have gb0 := cell_of_block GB7 0
  have gb1 := cell_of_block GB7 1
  have gb2 := cell_of_block GB7 2
  simp only [List.getElem?_toArray, List.getElem?_cons_zero, List.getElem?_cons_succ] at gb0 gb1 gb2
  have S8 := S7.t5 true
  have U8 := T2.put U7 5 (.bool true)
  clear S7 U7
  have S9 := S8.put1 (x := ((a + 1 : Nat) : Int) + 1) (a' := a + 1 + 1) (by omega) (by omega)
  have U9 := T2.at U8 1 (.int .i64 (((a + 1 : Nat) : Int) + 1))
  clear S8 U8
  have S10 := S9.put2 (x := ((k : Nat) : Int) + 1) (k' := k + 1) (by omega) (by omega)
  have U10 := T2.at U9 2 (.int .i64 (((k : Nat) : Int) + 1))
  clear S9 U9
  go_wp2
  go_ret
  exact ⟨rfl, S10, (lin.Turns.trans HAW.out U10)⟩
set_option maxHeartbeats 4000000 in
set_option maxRecDepth 100000 in
theorem rcl_o (rb tb : Nat) (ao : Option Addr) (n cap : Nat) (f : Nat → Int) (a k : Nat) (c p : Int) (st : Nat) (w : World) (h : RT w rb tb ao n cap f a k c p ⟨0, 0, 0, 0, [], false, st, 0⟩) (hk : 0 < k) (hk2 : k < 1000000) (hl : a + 1 ≤ n) (q0 : hasB f n (a) [38, 38] = false) (q1 : hasB f n (a) [45, 45] = false) (q2 : hasB f n (a) [126, 126] = false) (p0 : hasB f n (a) [91] = true) (p1 : hasB f n (a + 1) [94] = false) :
    Calls Tryz.prog 25 #[.pointer (some ⟨rb, 0, none⟩), .pointer (some ⟨tb, 0, none⟩)] w (RCl w rb tb ao n cap f a k c p st (some (classT false, k + 1, a + 1))) := by
  have Q0 : Hid (hasB f n (a) [38, 38] = false) := q0
  clear q0
  have Q1 : Hid (hasB f n (a) [45, 45] = false) := q1
  clear q1
  have Q2 : Hid (hasB f n (a) [126, 126] = false) := q2
  clear q2
  have P0 : Hid (hasB f n (a) [91] = true) := p0
  clear p0
  have P1 : Hid (hasB f n (a + 1) [94] = false) := p1
  clear p1
  have hk3 : (0 : Int) < (k : Int) := by omega
  have hne : ¬ tb = rb := h.ne
  have hne' : ¬ rb = tb := fun e => h.ne e.symm
  have hn := h.rs.nn
  have ha := h.rs.aa
  have hcc := h.rs.cc
  have hcm := h.rs.cm
  have hrl := h.rs.lt
  have htl : tb < w.heap.size := (Array.getElem?_eq_some_iff.1 h.tk).1
  obtain ⟨W, hW⟩ : ∃ W, w.alloc (.cells #[.string ⟨#[38, 38]⟩, .string ⟨#[45, 45]⟩, .string ⟨#[126, 126]⟩] 9) = W := ⟨_, rfl⟩
  have BW : Below w.heap.size w W := by rw [← hW]; exact (Below.refl _ _).alloc (Nat.le_refl _) _
  have HAW : Hid (T2 rb tb w W) := lin.Turns.of_below BW
  have S0 : RT W rb tb ao n cap f a k c p _ := h.below BW
  have U0 : T2 rb tb W W := lin.Turns.refl _ W
  have GB : W.heap[w.heap.size]? = some (.cells #[.string ⟨#[38, 38]⟩, .string ⟨#[45, 45]⟩, .string ⟨#[126, 126]⟩] 9 (0, 0)) := by rw [← hW]; exact World.alloc_heap_new _ _
  have hgl : w.heap.size < W.heap.size := by rw [← hW]; simp
  have HGN : Hid (¬ (w.heap.size = rb ∨ w.heap.size = tb)) := by unfold Hid; omega
  have HGL : Hid (w.heap.size < W.heap.size) := hgl
  clear BW hgl hrl htl
  clear h
  obtain ⟨⟨c0, c1, c2, z1, z2⟩, ⟨k0, k1, k2, k3, k4, k5, k6, k7⟩, ⟨f0, f1, f2, f3, f4, f5, f6, f7⟩⟩ := S0.cells
  have gb0 := cell_of_block GB 0
  have gb1 := cell_of_block GB 1
  have gb2 := cell_of_block GB 2
  simp only [List.getElem?_toArray, List.getElem?_cons_zero, List.getElem?_cons_succ] at gb0 gb1 gb2
  go_enter Tryz.func25, Tryz.ntmps25
  have GB0 := GB
  go_wp2
  refine wp_loop_rounds 4 ?_
  rw [rounds_succ]
  have C := has_t S0 U0 [38, 38] (by decide) (by decide)
  rw [Q0.out] at C
  go_wp2_with fail
  refine C.mono ?_
  rintro e w1 ⟨rfl, S1, U1⟩
  clear C S0 U0
  clear c0 c1 c2 z1 z2 k0 k1 k2 k3 k4 k5 k6 k7 f0 f1 f2 f3 f4 f5 f6 f7
  clear gb0 gb1 gb2
  have GB1 := (U1.block _ HGL.out HGN.out).trans GB0
  obtain ⟨⟨c0, c1, c2, z1, z2⟩, ⟨k0, k1, k2, k3, k4, k5, k6, k7⟩, ⟨f0, f1, f2, f3, f4, f5, f6, f7⟩⟩ := S1.cells
  have gb0 := cell_of_block GB1 0
  have gb1 := cell_of_block GB1 1
  have gb2 := cell_of_block GB1 2
  simp only [List.getElem?_toArray, List.getElem?_cons_zero, List.getElem?_cons_succ] at gb0 gb1 gb2
  go_wp2
  rw [rounds_succ]
  have C := has_t S1 U1 [45, 45] (by decide) (by decide)
  rw [Q1.out] at C
  go_wp2_with fail
  refine C.mono ?_
  rintro e w2 ⟨rfl, S2, U2⟩
  clear C S1 U1
  clear c0 c1 c2 z1 z2 k0 k1 k2 k3 k4 k5 k6 k7 f0 f1 f2 f3 f4 f5 f6 f7
  clear gb0 gb1 gb2
  have GB2 := (U2.block _ HGL.out HGN.out).trans GB0
  obtain ⟨⟨c0, c1, c2, z1, z2⟩, ⟨k0, k1, k2, k3, k4, k5, k6, k7⟩, ⟨f0, f1, f2, f3, f4, f5, f6, f7⟩⟩ := S2.cells
  have gb0 := cell_of_block GB2 0
  have gb1 := cell_of_block GB2 1
  have gb2 := cell_of_block GB2 2
  simp only [List.getElem?_toArray, List.getElem?_cons_zero, List.getElem?_cons_succ] at gb0 gb1 gb2
  go_wp2
  rw [rounds_succ]
  have C := has_t S2 U2 [126, 126] (by decide) (by decide)
  rw [Q2.out] at C
  go_wp2_with fail
  refine C.mono ?_
  rintro e w3 ⟨rfl, S3, U3⟩
  clear C S2 U2
  clear c0 c1 c2 z1 z2 k0 k1 k2 k3 k4 k5 k6 k7 f0 f1 f2 f3 f4 f5 f6 f7
  clear gb0 gb1 gb2
  have GB3 := (U3.block _ HGL.out HGN.out).trans GB0
  obtain ⟨⟨c0, c1, c2, z1, z2⟩, ⟨k0, k1, k2, k3, k4, k5, k6, k7⟩, ⟨f0, f1, f2, f3, f4, f5, f6, f7⟩⟩ := S3.cells
  have gb0 := cell_of_block GB3 0
  have gb1 := cell_of_block GB3 1
  have gb2 := cell_of_block GB3 2
  simp only [List.getElem?_toArray, List.getElem?_cons_zero, List.getElem?_cons_succ] at gb0 gb1 gb2
  go_wp2
  rw [rounds_succ]
  have C := has_t S3 U3 [91] (by decide) (by decide)
  rw [P0.out] at C
  go_wp2_with fail
  refine C.mono ?_
  rintro e w4 ⟨rfl, S4, U4⟩
  clear C S3 U3
  clear c0 c1 c2 z1 z2 k0 k1 k2 k3 k4 k5 k6 k7 f0 f1 f2 f3 f4 f5 f6 f7
  clear gb0 gb1 gb2
  have GB4 := (U4.block _ HGL.out HGN.out).trans GB0
  obtain ⟨⟨c0, c1, c2, z1, z2⟩, ⟨k0, k1, k2, k3, k4, k5, k6, k7⟩, ⟨f0, f1, f2, f3, f4, f5, f6, f7⟩⟩ := S4.cells
  have gb0 := cell_of_block GB4 0
  have gb1 := cell_of_block GB4 1
  have gb2 := cell_of_block GB4 2
  simp only [List.getElem?_toArray, List.getElem?_cons_zero, List.getElem?_cons_succ] at gb0 gb1 gb2
  have S5 := S4.t0 11
  have U5 := T2.put U4 0 (.int .i64 11)
  clear S4 U4
  have S6 := S5.put1 (x := ((a : Nat) : Int) + 1) (a' := a + 1) (by omega) (by omega)
  have U6 := T2.at U5 1 (.int .i64 (((a : Nat) : Int) + 1))
  clear S5 U5
  have C := has_t S6 U6 [94] (by decide) (by decide)
  rw [P1.out] at C
  go_wp2_with fail
  refine C.mono ?_
  rintro e w7 ⟨rfl, S7, U7⟩
  clear C S6 U6
  clear c0 c1 c2 z1 z2 k0 k1 k2 k3 k4 k5 k6 k7 f0 f1 f2 f3 f4 f5 f6 f7
  clear gb0 gb1 gb2
  have GB7 := (U7.block _ HGL.out HGN.out).trans GB0
  obtain ⟨⟨c0, c1, c2, z1, z2⟩, ⟨k0, k1, k2, k3, k4, k5, k6, k7⟩, ⟨f0, f1, f2, f3, f4, f5, f6, f7⟩⟩ := S7.cells
  have gb0 := cell_of_block GB7 0
  have gb1 := cell_of_block GB7 1
  have gb2 := cell_of_block GB7 2
  simp only [List.getElem?_toArray, List.getElem?_cons_zero, List.getElem?_cons_succ] at gb0 gb1 gb2
  have S8 := S7.put2 (x := ((k : Nat) : Int) + 1) (k' := k + 1) (by omega) (by omega)
  have U8 := T2.at U7 2 (.int .i64 (((k : Nat) : Int) + 1))
  clear S7 U7
  go_wp2
  go_ret
  exact ⟨rfl, S8, (lin.Turns.trans HAW.out U8)⟩
end Go.Proofs.YtlgkfnecahgedaaGreatDoor.tok
end
