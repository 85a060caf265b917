/- Texts that the proof leans on, one behind the other. -/
import Derived.Test.YtlgkfnecahgedaaGreatDoorBdTok14
import Derived.Test.YtlgkfnecahgedaaGreatDoorBdTok11
import Derived.Test.YtlgkfnecahgedaaGreatDoorBdNam4
import Derived.Deep.LoopGhost

section
/- The document's names: IsName. -/
set_option linter.unusedVariables false
set_option linter.unusedSimpArgs false
namespace Go.Proofs.YtlgkfnecahgedaaGreatDoor.tok
open Go.RowKit
open lin (BA Turns at8 at8_eq)

/-- Whether a byte may stand at its place in a name; whether all of a text is one. -/
def gdN (s : ByteArray) (p : Nat) : Bool := lettB (at8 s p) || (decide (0 < p) && digitB (at8 s p))
def isN (s : ByteArray) : Bool := decide ((∀ p, p < s.size → gdN s p = true) ∧ 1 ≤ s.size ∧ s.size ≤ 20)
theorem isN_bad {s : ByteArray} {p : Nat} (h : p < s.size) (hb : gdN s p = false) : isN s = false := by
  unfold isN
  rw [decide_eq_false_iff_not]
  intro q
  rw [q.1 p h] at hb
  cases hb
theorem isN_all {s : ByteArray} (h : ∀ p, p < s.size → gdN s p = true) : isN s = (decide (1 ≤ s.size) && decide (s.size ≤ 20)) := by
  unfold isN
  by_cases h1 : 1 ≤ s.size <;> by_cases h2 : s.size ≤ 20 <;> simp [h1, h2]
  exact h

set_option maxHeartbeats 2000000 in
set_option maxRecDepth 100000 in
theorem isName_any (s : ByteArray) (w : World) (hs : s.size ≤ 100000) :
    Calls Tryz.prog 114 #[.string s] w fun e w' => e = .returned (.bool (isN s)) ∧ w' = w := by
  obtain ⟨R, hR⟩ : ∃ R, isN s = R := ⟨_, rfl⟩
  rw [hR]
  have HR : Hid (isN s = R) := hR
  clear hR
  go_enter Tryz.func114, Tryz.ntmps114
  go_wp2
  go_loopw [3] (fun i wr => ∃ p : Nat, p ≤ s.size ∧ i = .int .i64 p ∧ Hid (∀ j, j < p → gdN s j = true) ∧ wr = w) (fun i _ => s.size - (RowKit.intOf i).toNat)
  case atStart => exact ⟨0, Nat.zero_le _, rfl, fun j h => absurd h (Nat.not_lt_zero _), rfl⟩
  case round =>
    obtain ⟨p, hp, rfl, HN, hz⟩ := hrel
    subst hz
    by_cases hlt : p < s.size
    · have hlt' : (p : Int) < (s.size : Int) := by omega
      have LT := fun W => rletter_any ((s[p]'hlt).toNat : Int) W
      have DG := fun W => rdigit_any ((s[p]'hlt).toNat : Int) W
      have HG : Hid (gdN s p = (lettB ((s[p]'hlt).toNat : Int) || (decide (0 < p) && digitB ((s[p]'hlt).toNat : Int)))) := by unfold Hid gdN; rw [at8_eq s p hlt]
      have HN2 : Hid (gdN s p = true → ∀ j, j < p + 1 → gdN s j = true) := fun g j h1 => by
        rcases Nat.lt_or_ge j p with h3 | h3
        · exact HN.out j h3
        · obtain rfl : j = p := by omega
          exact g
      clear HN
      cases hl : lettB ((s[p]'hlt).toNat : Int) with
      | true =>
        have HN3 : Hid (∀ j, j < p + 1 → gdN s j = true) := HN2.out (by rw [HG.out, hl]; rfl)
        rw [hl] at LT
        clear HN2 HG DG hl
        go_wp2_with fail
        refine (LT _).mono ?_
        rintro e w1 ⟨rfl, rfl⟩
        go_wp2
        exact ⟨⟨p + 1, by omega, by go_num, HN3, by trivial⟩, by (first | simp [intOf] | simp [Go.RowKit.intOf]); omega⟩
      | false =>
        by_cases h0 : p = 0
        · subst h0
          obtain rfl : R = false := by rw [← HR.out]; exact isN_bad hlt (by rw [HG.out, hl]; rfl)
          rw [hl] at LT
          clear HN2 HG DG hl HR
          go_wp2_with fail
          refine (LT _).mono ?_
          rintro e w1 ⟨rfl, rfl⟩
          go_wp2
          go_ret
          exact ⟨rfl, rfl⟩
        · have h1 : ((p : Int) == 0) = false := by rw [beq_eq_false_iff_ne]; omega
          have h2 : decide (0 < p) = true := by simp; omega
          cases hd : digitB ((s[p]'hlt).toNat : Int) with
          | true =>
            have HN3 : Hid (∀ j, j < p + 1 → gdN s j = true) := HN2.out (by rw [HG.out, hl, hd, h2]; rfl)
            rw [hl] at LT
            rw [hd] at DG
            clear HN2 HG hl hd h2
            go_wp2_with fail
            refine (LT _).mono ?_
            rintro e w1 ⟨rfl, rfl⟩
            go_wp2_with fail
            refine (DG _).mono ?_
            rintro e w1 ⟨rfl, rfl⟩
            go_wp2
            exact ⟨⟨p + 1, by omega, by go_num, HN3, by trivial⟩, by (first | simp [intOf] | simp [Go.RowKit.intOf]); omega⟩
          | false =>
            obtain rfl : R = false := by rw [← HR.out]; exact isN_bad hlt (by rw [HG.out, hl, hd, h2]; rfl)
            rw [hl] at LT
            rw [hd] at DG
            clear HN2 HG hl hd h2 HR
            go_wp2_with fail
            refine (LT _).mono ?_
            rintro e w1 ⟨rfl, rfl⟩
            go_wp2_with fail
            refine (DG _).mono ?_
            rintro e w1 ⟨rfl, rfl⟩
            go_wp2
            go_ret
            exact ⟨rfl, rfl⟩
    · obtain rfl : p = s.size := by omega
      have hlt' : ¬ (s.size : Int) < (s.size : Int) := by omega
      have HQ : Hid (R = (decide (1 ≤ s.size) && decide (s.size ≤ 20))) := by unfold Hid; rw [← HR.out]; exact isN_all HN.out
      clear HR HN
      by_cases h1 : 1 ≤ s.size
      · have h1' : (1 : Int) ≤ (s.size : Int) := by omega
        by_cases h2 : s.size ≤ 20
        · have h2' : (s.size : Int) ≤ 20 := by omega
          obtain rfl : R = true := by rw [HQ.out]; simp [h1, h2]
          clear HQ
          go_wp2
          go_ret
          exact ⟨rfl, rfl⟩
        · have h2' : ¬ (s.size : Int) ≤ 20 := by omega
          obtain rfl : R = false := by rw [HQ.out]; simp [h1, h2]
          clear HQ
          go_wp2
          go_ret
          exact ⟨rfl, rfl⟩
      · have h1' : ¬ (1 : Int) ≤ (s.size : Int) := by omega
        obtain rfl : R = false := by rw [HQ.out]; simp [h1]
        clear HQ
        go_wp2
        go_ret
        exact ⟨rfl, rfl⟩
end Go.Proofs.YtlgkfnecahgedaaGreatDoor.tok
end

section
/- Names: the document's way says the same. -/
set_option linter.unusedVariables false
set_option linter.unusedSimpArgs false
namespace Go.Proofs.YtlgkfnecahgedaaGreatDoor.tok
open Go.RowKit
open lin (BA at8)

section
variable (f : Nat → Int) (n : Nat)
/-- How many of up to m bytes from a on are a name's. -/
def cntM : Nat → Nat → Bool → Nat
  | 0, _, _ => 0
  | m + 1, a, first => if a < n ∧ nmC (f a) first = true then cntM m (a + 1) false + 1 else 0
theorem cntM_le : ∀ m a first, cntM f n m a first ≤ m ∧ (a ≤ n → a + cntM f n m a first ≤ n) := by
  intro m
  induction m with
  | zero => intro a first; simp [cntM]
  | succ m ih =>
    intro a first
    simp only [cntM]
    split
    · have := ih (a + 1) false; omega
    · omega
theorem cntM_at : ∀ m a first j, j < cntM f n m a first → a + j < n ∧ nmC (f (a + j)) (first && decide (j = 0)) = true := by
  intro m
  induction m with
  | zero => intro a first j h; simp [cntM] at h
  | succ m ih =>
    intro a first j h
    simp only [cntM] at h
    split at h
    · rename_i g
      cases j with
      | zero => simpa using g
      | succ j =>
        have := ih (a + 1) false j (by omega)
        rw [show a + 1 + j = a + (j + 1) by omega] at this
        simpa using this
    · omega
theorem cntM_end : ∀ m a first, cntM f n m a first < m → ¬ (a + cntM f n m a first < n ∧ nmC (f (a + cntM f n m a first)) (first && decide (cntM f n m a first = 0)) = true) := by
  intro m
  induction m with
  | zero => intro a first h; omega
  | succ m ih =>
    intro a first h
    by_cases g : a < n ∧ nmC (f a) first = true
    · have hC : cntM f n (m + 1) a first = cntM f n m (a + 1) false + 1 := by simp only [cntM]; rw [if_pos g]
      rw [hC] at h ⊢
      have := ih (a + 1) false (by omega)
      rw [show a + 1 + cntM f n m (a + 1) false = a + (cntM f n m (a + 1) false + 1) by omega] at this
      simpa using this
    · have hC : cntM f n (m + 1) a first = 0 := by simp only [cntM]; rw [if_neg g]
      rw [hC]
      simpa using g
theorem nmC_gt (x : Bool) : nmC 62 x = false := by cases x <;> decide
theorem nmR_ref (st b : Nat) : ∀ m a, b ≤ a → a ≤ n → nmR f n st b m a = if n ≤ a + cntM f n m a (decide (a = b)) then .no 130 n else if a + cntM f n m a (decide (a = b)) = b ∨ ¬ f (a + cntM f n m a (decide (a = b))) = 62 then nope f st else .ok (bytes f b (a + cntM f n m a (decide (a = b)))) (a + cntM f n m a (decide (a = b)) + 1) := by
  intro m
  induction m with
  | zero =>
    intro a hb ha
    rw [nmR_step]
    have hC : cntM f n 0 a (decide (a = b)) = 0 := rfl
    rw [hC, show a + 0 = a from rfl]
    by_cases hn : a < n
    · rw [show octet f n a = .ok (f a) (a + 1) from by unfold octet; rw [if_pos hn], bind_ok, if_neg (by omega : ¬ n ≤ a)]
      by_cases h1 : f a = 62 ∧ b < a
      · rw [if_pos h1, if_neg (by omega)]
      · rw [if_neg h1, if_pos (by omega)]
    · rw [show octet f n a = .no 130 n from by unfold octet; rw [if_neg hn], bind_no, if_pos (by omega)]
  | succ m ih =>
    intro a hb ha
    rw [nmR_step]
    by_cases hn : a < n
    · rw [show octet f n a = .ok (f a) (a + 1) from by unfold octet; rw [if_pos hn], bind_ok]
      by_cases hc : nmC (f a) (decide (a = b)) = true
      · have h62 : ¬ f a = 62 := fun q => by rw [q, nmC_gt] at hc; cases hc
        rw [if_neg (fun q => h62 q.1)]
        simp only []
        rw [if_pos hc, ih (a + 1) (by omega) (by omega)]
        have e : decide (a + 1 = b) = false := by simp; omega
        have hC : cntM f n (m + 1) a (decide (a = b)) = cntM f n m (a + 1) false + 1 := by simp only [cntM]; rw [if_pos ⟨hn, hc⟩]
        rw [hC, e, show a + 1 + cntM f n m (a + 1) false = a + (cntM f n m (a + 1) false + 1) by omega]
      · have hC : cntM f n (m + 1) a (decide (a = b)) = 0 := by simp only [cntM]; rw [if_neg (fun q => hc q.2)]
        rw [hC, show a + 0 = a from rfl, if_neg (by omega : ¬ n ≤ a)]
        by_cases h1 : f a = 62 ∧ b < a
        · rw [if_pos h1, if_neg (by omega)]
        · rw [if_neg h1, if_pos (by omega)]
          simp only []
          rw [if_neg hc]
    · rw [show octet f n a = .no 130 n from by unfold octet; rw [if_neg hn], bind_no, if_pos (by omega)]
theorem name_ref (st a : Nat) (ha : a ≤ n) : name f n st a = if n ≤ a + cntM f n 20 a true then .no 130 n else if cntM f n 20 a true = 0 ∨ ¬ f (a + cntM f n 20 a true) = 62 then nope f st else .ok (bytes f a (a + cntM f n 20 a true)) (a + cntM f n 20 a true + 1) := by
  unfold name
  have := nmR_ref f n st a 20 a (Nat.le_refl _) ha
  rw [decide_eq_true rfl] at this
  rw [this]
  have e : (a + cntM f n 20 a true = a) = (cntM f n 20 a true = 0) := propext ⟨fun h => by omega, fun h => by omega⟩
  simp only [e]
end
end Go.Proofs.YtlgkfnecahgedaaGreatDoor.tok
end

section
/- Names: which beginnings IsName takes. -/
set_option linter.unusedVariables false
set_option linter.unusedSimpArgs false
namespace Go.Proofs.YtlgkfnecahgedaaGreatDoor.tok
open Go.RowKit
open lin (BA at8)

section
variable (f : Nat → Int) (n : Nat)
theorem at8_bytes (hf : ∀ i, 0 ≤ f i ∧ f i ≤ 255) (a e p : Nat) (hp : p < e - a) : at8 (BA (bytes f a e)) p = f (a + p) := by
  have hs : (BA (bytes f a e)).size = e - a := by show (bytes f a e).length = _; exact bytes_len f a e
  rw [lin.at8_eq _ p (by omega)]
  have hl : p < (bytes f a e).length := by rw [bytes_len]; exact hp
  have e1 : (BA (bytes f a e))[p]'(by omega) = (bytes f a e)[p]'hl := rfl
  rw [e1]
  have h := hf (a + p)
  simp only [bytes, List.getElem_map, List.getElem_range]
  rw [UInt8.toNat_ofNat']
  omega
theorem gd_bytes (hf : ∀ i, 0 ≤ f i ∧ f i ≤ 255) (a e p : Nat) (hp : p < e - a) : gdN (BA (bytes f a e)) p = nmC (f (a + p)) (decide (p = 0)) := by
  unfold gdN nmC lettB
  rw [at8_bytes f hf a e p hp]
  cases p with
  | zero => simp [Bool.or_comm]
  | succ p => simp [Bool.or_comm, Bool.or_assoc, Bool.or_left_comm]
theorem isN_go (hf : ∀ i, 0 ≤ f i ∧ f i ≤ 255) (a j : Nat) (hj : j < cntM f n 20 a true) : isN (BA (bytes f a (a + j + 1))) = true := by
  have hs : (BA (bytes f a (a + j + 1))).size = j + 1 := by show (bytes f a (a + j + 1)).length = _; rw [bytes_len]; omega
  have hl := (cntM_le f n 20 a true).1
  rw [isN_all (fun p hp => by
    rw [hs] at hp
    rw [gd_bytes f hf a _ p (by omega)]
    have := (cntM_at f n 20 a true p (by omega)).2
    simpa using this), hs]
  simp; omega
theorem isN_stop (hf : ∀ i, 0 ≤ f i ∧ f i ≤ 255) (a : Nat) (hn : a + cntM f n 20 a true < n) : isN (BA (bytes f a (a + cntM f n 20 a true + 1))) = false := by
  have hl := (cntM_le f n 20 a true).1
  have he := cntM_end f n 20 a true
  generalize cntM f n 20 a true = D at *
  have hs : (BA (bytes f a (a + D + 1))).size = D + 1 := by show (bytes f a (a + D + 1)).length = _; rw [bytes_len]; omega
  by_cases h : D < 20
  · refine isN_bad (p := D) (by omega) ?_
    rw [gd_bytes f hf a _ D (by omega)]
    have := he h
    cases hq : nmC (f (a + D)) (decide (D = 0)) with
    | false => rfl
    | true => exact absurd ⟨hn, by simpa using hq⟩ this
  · unfold isN
    rw [decide_eq_false_iff_not, hs]
    omega
theorem bytes_snoc (a j : Nat) : BA (bytes f a (a + j)) ++ BA (bytes f (a + j) (a + j + 1)) = BA (bytes f a (a + j + 1)) := by
  rw [show BA (bytes f a (a + j)) ++ BA (bytes f (a + j) (a + j + 1)) = BA (bytes f a (a + j) ++ bytes f (a + j) (a + j + 1)) from by
    apply ByteArray.ext
    rw [ByteArray.data_append]
    show (bytes f a (a + j)).toArray ++ (bytes f (a + j) (a + j + 1)).toArray = (bytes f a (a + j) ++ bytes f (a + j) (a + j + 1)).toArray
    simp]
  congr 1
  unfold bytes
  rw [show a + j + 1 - a = j + 1 by omega, show a + j - a = j by omega, show a + j + 1 - (a + j) = 1 by omega, show List.range (j + 1) = List.range j ++ [j] from List.range_succ, List.map_append]
  rfl
end
end Go.Proofs.YtlgkfnecahgedaaGreatDoor.tok
end

section
/- The document's names. -/
set_option linter.unusedVariables false
set_option linter.unusedSimpArgs false
namespace Go.Proofs.YtlgkfnecahgedaaGreatDoor.tok
open Go.RowKit
open lin (BA Turns)

def nmV (s : List UInt8) : Value := .tuple #[.string (BA s), .bool true]
def nmZ : Value := .tuple #[.string (BA []), .bool false]
def nameO (f : Nat → Int) (n a D st : Nat) (ec : Int) : Out (List UInt8) :=
  if n ≤ a + D then .no 130 n else if D = 0 ∨ ¬ f (a + D) = 62 then .no ec st else .ok (bytes f a (a + D)) (a + D + 1)

set_option maxHeartbeats 4000000 in
set_option maxRecDepth 100000 in
theorem rname_any (rb : Nat) (ao : Option Addr) (n cap : Nat) (f : Nat → Int) (a k : Nat) (c p : Int) (w : World) (h : Rs w rb ao n cap f a k c p) (st : Nat) (ec : Int) :
    Calls Tryz.prog 84 #[.pointer (some ⟨rb, 0, none⟩), .int .i64 st, .int .i64 ec] w (REnd w rb ao n cap f a k c p nmV nmZ (nameO f n a (cntM f n 20 a true) st ec)) := by
  have hcl := cntM_le f n 20 a true
  have ha := h.aa
  have hn := h.nn
  have hcc := h.cc
  obtain ⟨b, off, rfl, hb, -⟩ := h.byt
  have HG := isN_go f n h.ff a
  have HP := isN_stop f n h.ff a
  generalize cntM f n 20 a true = D at *
  have HG : Hid (∀ j, j < D → isN (BA (bytes f a (a + j + 1))) = true) := HG
  have HP : Hid (a + D < n → isN (BA (bytes f a (a + D + 1))) = false) := HP
  have HB : Hid (∀ j, BA (bytes f a (a + j)) ++ BA (bytes f (a + j) (a + j + 1)) = BA (bytes f a (a + j + 1))) := bytes_snoc f a
  have HZ : Hid (∀ j, j ≤ D → (BA (bytes f a (a + j + 1))).size ≤ 100000) := fun j hj => by
    show (bytes f a (a + j + 1)).length ≤ 100000
    rw [bytes_len]; omega
  obtain ⟨R, hR⟩ : ∃ R, nameO f n a D st ec = R := ⟨_, rfl⟩
  rw [hR]
  have HR : Hid (nameO f n a D st ec = R) := hR
  clear hR
  have HS : Hid (Rs w rb (some ⟨b, off, none⟩) n cap f a k c p) := h
  clear h
  obtain ⟨hD1, hD2⟩ := hcl
  have hD2 := hD2 ha
  go_enter Tryz.func84, Tryz.ntmps84
  go_wp2
  go_loopw [8] (fun v wr => ∃ (j : Nat) (X : ByteArray), j ≤ D ∧ v = .string X ∧ Hid (X = BA (bytes f a (a + j))) ∧ Hid (Rs wr rb (some ⟨b, off, none⟩) n cap f (a + j) k c p) ∧ Hid (Tn rb w wr))
    (fun v _ => D - (match v with | .string X => X.size | _ => 0))
  case atStart => exact ⟨0, _, Nat.zero_le _, rfl, by unfold Hid; rw [show a + 0 = a from rfl, bytes_zero]; rfl, HS, lin.Turns.refl _ _⟩
  case round =>
    obtain ⟨j, X, hj, rfl, HX, HW, HT⟩ := hrel
    have hxs : X.size = j := by rw [HX.out]; show (bytes f a (a + j)).length = j; rw [bytes_len]; omega
    obtain ⟨c0, c1, c2, c3, c4, z0, z1, z2, z3, z4⟩ := HW.out.cells
    have R0 := rest_any rb _ n cap f (a + j) k c p wr HW.out
    have RE := fun q => rest_any rb _ n cap f (a + j) k c p (wr.drewN q) (HW.out.drewN q)
    by_cases han : a + j < n
    · rw [rA_lt b off (a + j) cap (by omega)] at R0
      have RE : ∀ q, Calls Tryz.prog 44 #[.pointer (some ⟨rb, 0, none⟩)] (wr.drewN q) fun e w' => ∃ q', e = .returned (.slice (some ⟨b, off + (a + j), none⟩) (n - (a + j)) (cap - (a + j))) ∧ w' = (wr.drewN q).drewN q' := fun q => by
        have := RE q
        rw [rA_lt b off (a + j) cap (by omega)] at this
        exact this
      have CV := fun q => (HW.out.drewN q).conv (a + j) (a + j + 1) (cap - (a + j)) (by omega) han
      have e1 : a + j + 1 - (a + j) = 1 := by omega
      rw [e1] at CV
      have HXX : X ++ BA (bytes f (a + j) (a + j + 1)) = BA (bytes f a (a + j + 1)) := by rw [HX.out]; exact HB.out j
      have IS := fun W => isName_any (BA (bytes f a (a + j + 1))) W (HZ.out j hj)
      have hys : (BA (bytes f a (a + j + 1))).size = j + 1 := by show (bytes f a (a + j + 1)).length = j + 1; rw [bytes_len]; omega
      have hzs : (BA (bytes f (a + j) (a + j + 1))).size = 1 := by show (bytes f (a + j) (a + j + 1)).length = 1; rw [bytes_len]; omega
      have hpos : 0 < n - (a + j) := by omega
      have hpos2 : (0 : Int) < ((n - (a + j) : Nat) : Int) := by omega
      have hpos3 : (1 : Int) ≤ ((cap - (a + j) : Nat) : Int) := by omega
      obtain ⟨b', off', e', -, hcc'⟩ := HW.out.byt
      cases e'
      have cx := hcc' (a + j) han
      clear hcc'
      by_cases hlt : j < D
      · rw [HG.out j hlt] at IS
        obtain ⟨Y, HY⟩ : ∃ Y, BA (bytes f a (a + j + 1)) = Y := ⟨_, rfl⟩
        rw [HY] at IS HXX hys
        have HX2 : Hid (Y = BA (bytes f a (a + (j + 1)))) := HY.symm
        clear HY HZ HB HG HP
        generalize BA (bytes f (a + j) (a + j + 1)) = Z at *
        clear cx
        go_wp2_with fail
        refine R0.mono ?_
        rintro e w1 ⟨q1, rfl, rfl⟩
        go_wp2_with fail
        refine (RE _).mono ?_
        rintro e w1 ⟨q2, rfl, rfl⟩
        rw [World.drewN_drewN]
        have CV1 := CV (q1 + q2)
        go_wp2_with fail
        try rw [HXX]
        refine (IS _).mono ?_
        rintro e w1 ⟨rfl, rfl⟩
        clear CV1
        go_wp2_with fail
        refine (RE _).mono ?_
        rintro e w1 ⟨q3, rfl, rfl⟩
        rw [World.drewN_drewN]
        have CV1 := CV (q1 + q2 + q3)
        have S2 := Rs.put1 (HW.out.drewN (q1 + q2 + q3)) (x := ((a + j : Nat) : Int) + 1) (a' := a + (j + 1)) (by omega) (by omega)
        have T2 := Tn.put (Tn.drewN HT.out (q1 + q2 + q3)) 1 (.int .i64 (((a + j : Nat) : Int) + 1))
        have ecast : ((a + j : Nat) : Int) = (a : Int) + (j : Int) := by omega
        rw [ecast] at S2 T2
        clear R0 RE IS HW HT HX CV
        go_wp2
        exact ⟨⟨j + 1, Y, by omega, (by first | rfl | rw [HXX]), HX2, S2, T2⟩, by simp [HXX, hxs, hys]; omega⟩
      · obtain rfl : j = D := by omega
        rw [HP.out han] at IS
        have HQ : Hid (R = if j = 0 ∨ ¬ f (a + j) = 62 then .no ec st else .ok (bytes f a (a + j)) (a + j + 1)) := by
          unfold Hid; rw [← HR.out]; unfold nameO; rw [if_neg (by omega)]
        clear HR HG HP HB HZ HS
        have HX3 : Hid (X = BA (bytes f a (a + j))) := HX.out
        generalize BA (bytes f a (a + j + 1)) = Y at *
        generalize BA (bytes f (a + j) (a + j + 1)) = Z at *
        obtain ⟨yy, hyy⟩ : ∃ yy, f (a + j) = yy := ⟨_, rfl⟩
        rw [hyy] at cx
        have KY : Hid (f (a + j) = yy) := hyy
        clear hyy
        have hz3 : ¬ n - (a + j) = 0 := by omega
        have hz4 : (((n - (a + j) : Nat) : Int) == 0) = false := by simp; omega
        go_wp2_with fail
        refine R0.mono ?_
        rintro e w1 ⟨q1, rfl, rfl⟩
        go_wp2_with fail
        refine (RE _).mono ?_
        rintro e w1 ⟨q2, rfl, rfl⟩
        rw [World.drewN_drewN]
        have CV1 := CV (q1 + q2)
        go_wp2_with fail
        try rw [HXX]
        refine (IS _).mono ?_
        rintro e w1 ⟨rfl, rfl⟩
        clear CV1
        go_wp2_with fail
        refine (RE _).mono ?_
        rintro e w1 ⟨q3, rfl, rfl⟩
        rw [World.drewN_drewN]
        by_cases h0 : j = 0
        · subst h0
          obtain rfl : X = ⟨#[]⟩ := by rw [HX3.out, show a + 0 = a from rfl, bytes_zero]; rfl
          obtain rfl : R = .no ec st := by rw [HQ.out, if_pos (.inl rfl)]
          have SF := HW.out.drewN (q1 + q2 + q3)
          have TF := Tn.drewN HT.out (q1 + q2 + q3)
          have C := fail_any rb _ n cap f _ k c p _ SF ec st
          clear R0 RE IS HW HT HX CV HQ HX3 hxs
          go_wp2_with fail
          refine C.mono ?_
          rintro e w9 ⟨rfl, S9, U9⟩
          go_wp2
          go_ret2
          exact ⟨rfl, ⟨_, S9⟩, lin.Turns.trans TF U9⟩
        · have hX0 : (X.toList == ByteArray.toList ⟨#[]⟩) = false := by
            rw [HX3.out, show (⟨#[]⟩ : ByteArray) = BA [] from rfl, BA_beq, beq_eq_false_iff_ne]
            intro q
            have := congrArg List.length q
            rw [bytes_len] at this
            simp at this
            omega
          have hE0 : ByteArray.toList ⟨#[]⟩ = [] := by rw [Lib.toList_data]
          have hX2 := hX0
          rw [hE0] at hX2
          have hX1 : ¬ X.toList = [] := fun q => by rw [q] at hX2; simp at hX2
          have hX4 : ¬ X = ⟨#[]⟩ := fun q => by rw [q, hE0] at hX1; exact hX1 rfl
          clear hE0
          go_wp2_with fail
          refine (RE _).mono ?_
          rintro e w1 ⟨q4, rfl, rfl⟩
          rw [World.drewN_drewN]
          have SF := HW.out.drewN (q1 + q2 + q3 + q4)
          have TF := Tn.drewN HT.out (q1 + q2 + q3 + q4)
          by_cases h62 : yy = 62
          · subst h62
            obtain rfl : R = .ok (bytes f a (a + j)) (a + j + 1) := by rw [HQ.out, if_neg (fun q => q.elim h0 (fun z => z KY.out))]
            have S2 := Rs.put1 SF (x := ((a + j : Nat) : Int) + 1) (a' := a + j + 1) (by omega) (by omega)
            have T2 := Tn.put TF 1 (.int .i64 (((a + j : Nat) : Int) + 1))
            have ecast : ((a + j : Nat) : Int) = (a : Int) + (j : Int) := by omega
            rw [ecast] at S2 T2
            clear R0 RE IS HW HT HX CV HQ
            go_wp2
            go_ret2
            exact ⟨by rw [nmV, ← HX3.out]; rfl, S2, T2⟩
          · have hy2 : (yy == 62) = false := by simp [h62]
            have hy3 : (yy != 62) = true := by simp [h62]
            obtain rfl : R = .no ec st := by rw [HQ.out, if_pos (.inr (by rw [KY.out]; exact h62))]
            have C := fail_any rb _ n cap f _ k c p _ SF ec st
            clear R0 RE IS HW HT HX CV HQ HX3
            go_wp2_with fail
            refine C.mono ?_
            rintro e w9 ⟨rfl, S9, U9⟩
            go_wp2
            go_ret2
            exact ⟨rfl, ⟨_, S9⟩, lin.Turns.trans TF U9⟩
    · obtain rfl : j = D := by omega
      have hz : n - (a + j) = 0 := by omega
      obtain rfl : R = .no 130 n := by rw [← HR.out]; unfold nameO; rw [if_pos (by omega)]
      rw [hz] at R0
      have RE : ∀ q, Calls Tryz.prog 44 #[.pointer (some ⟨rb, 0, none⟩)] (wr.drewN q) fun e w' => ∃ q', e = .returned (.slice (rA (some ⟨b, off, none⟩) (a + j) cap) 0 (cap - (a + j))) ∧ w' = (wr.drewN q).drewN q' := fun q => by
        have := RE q
        rw [hz] at this
        exact this
      clear HR HG HP HB HZ HS
      go_wp2_with fail
      refine R0.mono ?_
      rintro e w1 ⟨q1, rfl, rfl⟩
      go_wp2_with fail
      refine (RE _).mono ?_
      rintro e w1 ⟨q2, rfl, rfl⟩
      rw [World.drewN_drewN]
      have SF := HW.out.drewN (q1 + q2)
      have TF := Tn.drewN HT.out (q1 + q2)
      have C := fail_any rb _ n cap f _ k c p _ SF 130 n
      clear R0 RE HW HT HX
      go_wp2_with fail
      refine C.mono ?_
      rintro e w9 ⟨rfl, S9, U9⟩
      go_wp2
      go_ret2
      exact ⟨rfl, ⟨_, S9⟩, lin.Turns.trans TF U9⟩
end Go.Proofs.YtlgkfnecahgedaaGreatDoor.tok
end

section
/- The document's back references. -/
set_option linter.unusedVariables false
set_option linter.unusedSimpArgs false
namespace Go.Proofs.YtlgkfnecahgedaaGreatDoor.tok
open Go.RowKit
open lin (BA Turns)

def RNt (w : World) (rb tb : Nat) (ao : Option Addr) (n cap : Nat) (f : Nat → Int) (k : Nat) (c p : Int) (t : Tk) : Out (List UInt8) → Ending → World → Prop
  | .ok s a', e, w' => e = .returned (nmV s) ∧ RT w' rb tb ao n cap f a' k c p t ∧ T2 rb tb w w'
  | .no c' p', e, w' => e = .returned nmZ ∧ (∃ a', RT w' rb tb ao n cap f a' k c' p' t) ∧ T2 rb tb w w'
theorem name_t {w W : World} {rb tb : Nat} {ao : Option Addr} {n cap : Nat} {f : Nat → Int} {a k : Nat} {c p : Int} {t : Tk} (S : RT W rb tb ao n cap f a k c p t) (T : T2 rb tb w W) (st : Nat) (ec : Int) (hst : noneC f st = ec) :
    Calls Tryz.prog 84 #[.pointer (some ⟨rb, 0, none⟩), .int .i64 st, .int .i64 ec] W (RNt w rb tb ao n cap f k c p t (name f n st a)) := by
  have e : name f n st a = nameO f n a (cntM f n 20 a true) st ec := by
    rw [name_ref f n st a S.rs.aa]; unfold nameO nope; rw [hst]
  rw [e]
  refine (rname_any rb ao n cap f a k c p W S.rs st ec).mono fun e w' h => ?_
  cases hq : nameO f n a (cntM f n 20 a true) st ec with
  | ok s a' => rw [hq] at h; exact ⟨h.1, S.call h.2.1 h.2.2, lin.Turns.trans T (T2.of h.2.2)⟩
  | no c' p' => rw [hq] at h; obtain ⟨h1, ⟨a', h2⟩, h3⟩ := h; exact ⟨h1, ⟨a', S.call h2 h3⟩, lin.Turns.trans T (T2.of h3)⟩

set_option maxHeartbeats 4000000 in
set_option maxRecDepth 100000 in
theorem rbk_name (rb tb : Nat) (ao : Option Addr) (n cap : Nat) (f : Nat → Int) (a k : Nat) (c p : Int) (st : Nat) (w : World) (h : RT w rb tb ao n cap f a k c p ⟨0, 0, 0, 0, [], false, st, 0⟩) (hst : noneC f st = 132) (hl : a < n) (hq : hasB f n a [60] = true) :
    Calls Tryz.prog 89 #[.pointer (some ⟨rb, 0, none⟩), .pointer (some ⟨tb, 0, none⟩)] w (REt w rb tb ao n cap f k c p st ((name f n st (a + 1)).bind fun s a => .ok ⟨9, 0, 0, 0, s, false, 0, 0⟩ a)) := by
  have KQ : Hid (hasB f n a [60] = true) := hq
  clear hq
  have S0 := h
  have U0 : T2 rb tb w w := lin.Turns.refl _ w
  have hne : ¬ tb = rb := h.ne
  have hne' : ¬ rb = tb := fun e => h.ne e.symm
  have hn := h.rs.nn
  have ha := h.rs.aa
  have hcc := h.rs.cc
  have hcm := h.rs.cm
  obtain ⟨o, ho⟩ : ∃ o, name f n st (a + 1) = o := ⟨_, rfl⟩
  rw [ho]
  have KO : Hid (name f n st (a + 1) = o) := ho
  clear h ho
  obtain ⟨⟨c0, c1, c2, z1, z2⟩, ⟨k0, k1, k2, k3, k4, k5, k6, k7⟩, ⟨f0, f1, f2, f3, f4, f5, f6, f7⟩⟩ := S0.cells
  go_enter Tryz.func89, Tryz.ntmps89
  have S1 := S0.t0 9
  have U1 := T2.put U0 0 (.int .i64 9)
  clear S0 U0
  have hz2 : 0 < n - a := by omega
  have hz3 : ¬ n - a = 0 := by omega
  have hz4 : (((n - a : Nat) : Int) == 0) = false := by simp; omega
  have hz5 : (0 : Int) < ((n - a : Nat) : Int) := by omega
  have C := rest_t S1 U1
  go_wp2_with fail
  refine C.mono ?_
  rintro e w2 ⟨rfl, S2, U2⟩
  clear C S1 U1
  clear c0 c1 c2 z1 z2 k0 k1 k2 k3 k4 k5 k6 k7 f0 f1 f2 f3 f4 f5 f6 f7
  obtain ⟨⟨c0, c1, c2, z1, z2⟩, ⟨k0, k1, k2, k3, k4, k5, k6, k7⟩, ⟨f0, f1, f2, f3, f4, f5, f6, f7⟩⟩ := S2.cells
  have C := has_t S2 U2 [60] (by decide) (by decide)
  rw [KQ.out] at C
  go_wp2_with fail
  refine C.mono ?_
  rintro e w3 ⟨rfl, S3, U3⟩
  clear C S2 U2
  clear c0 c1 c2 z1 z2 k0 k1 k2 k3 k4 k5 k6 k7 f0 f1 f2 f3 f4 f5 f6 f7
  obtain ⟨⟨c0, c1, c2, z1, z2⟩, ⟨k0, k1, k2, k3, k4, k5, k6, k7⟩, ⟨f0, f1, f2, f3, f4, f5, f6, f7⟩⟩ := S3.cells
  have S4 := S3.put1 (x := ((a : Nat) : Int) + 1) (a' := a + 1) (by omega) (by omega)
  have U4 := T2.at U3 1 (.int .i64 (((a : Nat) : Int) + 1))
  clear S3 U3
  have C := name_t S4 U4 st 132 hst
  rw [KO.out] at C
  clear KO
  go_wp2_with fail
  refine C.mono ?_
  clear C
  cases o with
  | ok s a1 =>
    rintro e w5 ⟨rfl, S5, U5⟩
    clear S4 U4
    clear c0 c1 c2 z1 z2 k0 k1 k2 k3 k4 k5 k6 k7 f0 f1 f2 f3 f4 f5 f6 f7
    obtain ⟨⟨c0, c1, c2, z1, z2⟩, ⟨k0, k1, k2, k3, k4, k5, k6, k7⟩, ⟨f0, f1, f2, f3, f4, f5, f6, f7⟩⟩ := S5.cells
    unfold nmV
    have S6 := S5.t4 s
    have U6 := T2.put U5 4 (.string (BA s))
    clear S5 U5
    go_wp2
    go_ret
    exact ⟨rfl, S6, U6⟩
  | no cc1 pp1 =>
    rintro e w5 ⟨rfl, ⟨a1, S5⟩, U5⟩
    clear S4 U4
    clear c0 c1 c2 z1 z2 k0 k1 k2 k3 k4 k5 k6 k7 f0 f1 f2 f3 f4 f5 f6 f7
    obtain ⟨⟨c0, c1, c2, z1, z2⟩, ⟨k0, k1, k2, k3, k4, k5, k6, k7⟩, ⟨f0, f1, f2, f3, f4, f5, f6, f7⟩⟩ := S5.cells
    unfold nmZ
    have S6 := S5.t4 []
    have U6 := T2.put U5 4 (.string (BA []))
    clear S5 U5
    go_wp2
    go_ret
    exact ⟨rfl, ⟨_, _, S6⟩, U6⟩
theorem rback (rb tb : Nat) (ao : Option Addr) (n cap : Nat) (f : Nat → Int) (a k : Nat) (c p : Int) (st : Nat) (w : World) (h : RT w rb tb ao n cap f a k c p ⟨0, 0, 0, 0, [], false, st, 0⟩) (hst : noneC f st = 132) :
    Calls Tryz.prog 89 #[.pointer (some ⟨rb, 0, none⟩), .pointer (some ⟨tb, 0, none⟩)] w (REt w rb tb ao n cap f k c p st (back f n st a)) := by
  by_cases h60 : a < n ∧ f a = 60
  · have hq : hasB f n a [60] = true := by
      have : hasB f n a [60] = at_ f n a 60 := by simp [hasB]
      rw [this]; exact (at_eq f n _ _).2 h60
    unfold back
    rw [show octet f n a = .ok (f a) (a + 1) from by unfold octet; rw [if_pos h60.1], bind_ok, if_pos h60.2]
    exact rbk_name rb tb ao n cap f a k c p st w h hst h60.1 hq
  · exact rback_n rb tb ao n cap f a k c p st w h hst h60
end Go.Proofs.YtlgkfnecahgedaaGreatDoor.tok
end

section
/- The document's escapes outside of classes. -/
set_option linter.unusedVariables false
set_option linter.unusedSimpArgs false
namespace Go.Proofs.YtlgkfnecahgedaaGreatDoor.tok
open Go.RowKit
open lin (BA Turns)

def ROt (w : World) (rb tb : Nat) (ao : Option Addr) (n cap : Nat) (f : Nat → Int) (k : Nat) (c p : Int) (st : Nat) : Out Tk → Ending → World → Prop
  | .ok t a', e, w' => e = .returned (.tuple #[.bool true, .bool true]) ∧ RT w' rb tb ao n cap f a' k c p { t with s := st } ∧ T2 rb tb w w'
  | .no c' p', e, w' => e = .returned (.tuple #[.bool true, .bool false]) ∧ (∃ a' t', RT w' rb tb ao n cap f a' k c' p' t') ∧ T2 rb tb w w'
set_option maxHeartbeats 4000000 in
set_option maxRecDepth 100000 in
theorem rout_A (rb tb : Nat) (ao : Option Addr) (n cap : Nat) (f : Nat → Int) (a k : Nat) (c p : Int) (st : Nat) (w : World) (h : RT w rb tb ao n cap f a k c p ⟨0, 0, 0, 0, [], false, st, 0⟩) :
    Calls Tryz.prog 50 #[.pointer (some ⟨rb, 0, none⟩), .pointer (some ⟨tb, 0, none⟩), .int .i64 65] w (ROt w rb tb ao n cap f k c p st (.ok (asrt 3) a)) := by
  have S0 := h
  have U0 : T2 rb tb w w := lin.Turns.refl _ w
  have hne : ¬ tb = rb := h.ne
  have hne' : ¬ rb = tb := fun e => h.ne e.symm
  have hn := h.rs.nn
  have ha := h.rs.aa
  have hcc := h.rs.cc
  have hcm := h.rs.cm
  clear h
  obtain ⟨⟨c0, c1, c2, z1, z2⟩, ⟨k0, k1, k2, k3, k4, k5, k6, k7⟩, ⟨f0, f1, f2, f3, f4, f5, f6, f7⟩⟩ := S0.cells
  go_enter Tryz.func50, Tryz.ntmps50
  have S1 := S0.t0 7
  have U1 := T2.put U0 0 (.int .i64 7)
  clear S0 U0
  have S2 := S1.t1 3
  have U2 := T2.put U1 1 (.int .i64 3)
  clear S1 U1
  go_wp2
  go_ret2
  exact ⟨rfl, S2, U2⟩
set_option maxHeartbeats 4000000 in
set_option maxRecDepth 100000 in
theorem rout_z (rb tb : Nat) (ao : Option Addr) (n cap : Nat) (f : Nat → Int) (a k : Nat) (c p : Int) (st : Nat) (w : World) (h : RT w rb tb ao n cap f a k c p ⟨0, 0, 0, 0, [], false, st, 0⟩) :
    Calls Tryz.prog 50 #[.pointer (some ⟨rb, 0, none⟩), .pointer (some ⟨tb, 0, none⟩), .int .i64 122] w (ROt w rb tb ao n cap f k c p st (.ok (asrt 4) a)) := by
  have S0 := h
  have U0 : T2 rb tb w w := lin.Turns.refl _ w
  have hne : ¬ tb = rb := h.ne
  have hne' : ¬ rb = tb := fun e => h.ne e.symm
  have hn := h.rs.nn
  have ha := h.rs.aa
  have hcc := h.rs.cc
  have hcm := h.rs.cm
  clear h
  obtain ⟨⟨c0, c1, c2, z1, z2⟩, ⟨k0, k1, k2, k3, k4, k5, k6, k7⟩, ⟨f0, f1, f2, f3, f4, f5, f6, f7⟩⟩ := S0.cells
  go_enter Tryz.func50, Tryz.ntmps50
  have S1 := S0.t0 7
  have U1 := T2.put U0 0 (.int .i64 7)
  clear S0 U0
  have S2 := S1.t1 3
  have U2 := T2.put U1 1 (.int .i64 3)
  clear S1 U1
  have S3 := S2.t1 4
  have U3 := T2.put U2 1 (.int .i64 4)
  clear S2 U2
  go_wp2
  go_ret2
  exact ⟨rfl, S3, U3⟩
set_option maxHeartbeats 4000000 in
set_option maxRecDepth 100000 in
theorem rout_X (rb tb : Nat) (ao : Option Addr) (n cap : Nat) (f : Nat → Int) (a k : Nat) (c p : Int) (st : Nat) (w : World) (h : RT w rb tb ao n cap f a k c p ⟨0, 0, 0, 0, [], false, st, 0⟩) :
    Calls Tryz.prog 50 #[.pointer (some ⟨rb, 0, none⟩), .pointer (some ⟨tb, 0, none⟩), .int .i64 88] w (ROt w rb tb ao n cap f k c p st (.ok (bare 10) a)) := by
  have S0 := h
  have U0 : T2 rb tb w w := lin.Turns.refl _ w
  have hne : ¬ tb = rb := h.ne
  have hne' : ¬ rb = tb := fun e => h.ne e.symm
  have hn := h.rs.nn
  have ha := h.rs.aa
  have hcc := h.rs.cc
  have hcm := h.rs.cm
  clear h
  obtain ⟨⟨c0, c1, c2, z1, z2⟩, ⟨k0, k1, k2, k3, k4, k5, k6, k7⟩, ⟨f0, f1, f2, f3, f4, f5, f6, f7⟩⟩ := S0.cells
  go_enter Tryz.func50, Tryz.ntmps50
  have S1 := S0.t0 10
  have U1 := T2.put U0 0 (.int .i64 10)
  clear S0 U0
  go_wp2
  go_ret2
  exact ⟨rfl, S1, U1⟩
set_option maxHeartbeats 4000000 in
set_option maxRecDepth 100000 in
theorem rout_b (rb tb : Nat) (ao : Option Addr) (n cap : Nat) (f : Nat → Int) (a k : Nat) (c p : Int) (st : Nat) (w : World) (h : RT w rb tb ao n cap f a k c p ⟨0, 0, 0, 0, [], false, st, 0⟩) (hst : noneC f st = 132) :
    Calls Tryz.prog 50 #[.pointer (some ⟨rb, 0, none⟩), .pointer (some ⟨tb, 0, none⟩), .int .i64 98] w (ROt w rb tb ao n cap f k c p st (edge f n st 5 7 9 a)) := by
  have C := redge_is rb tb ao n cap f a k c p ⟨0, 0, 0, 0, [], false, st, 0⟩ st w h rfl hst
  obtain ⟨o, ho⟩ : ∃ o, edge f n st 5 7 9 a = o := ⟨_, rfl⟩
  rw [ho] at C ⊢
  clear ho
  have S0 := h
  have U0 : T2 rb tb w w := lin.Turns.refl _ w
  have hne : ¬ tb = rb := h.ne
  have hne' : ¬ rb = tb := fun e => h.ne e.symm
  have hn := h.rs.nn
  have ha := h.rs.aa
  have hcc := h.rs.cc
  have hcm := h.rs.cm
  clear h
  obtain ⟨⟨c0, c1, c2, z1, z2⟩, ⟨k0, k1, k2, k3, k4, k5, k6, k7⟩, ⟨f0, f1, f2, f3, f4, f5, f6, f7⟩⟩ := S0.cells
  go_enter Tryz.func50, Tryz.ntmps50
  go_wp2_with fail
  refine C.mono ?_
  clear C
  cases o with
  | ok t1 a1 =>
    rintro e w1 ⟨rfl, S1, U1⟩
    go_wp2
    go_ret2
    exact ⟨rfl, S1, U1⟩
  | no cc1 pp1 =>
    rintro e w1 ⟨rfl, S1, U1⟩
    go_wp2
    go_ret2
    exact ⟨rfl, S1, U1⟩
set_option maxHeartbeats 4000000 in
set_option maxRecDepth 100000 in
theorem rout_B (rb tb : Nat) (ao : Option Addr) (n cap : Nat) (f : Nat → Int) (a k : Nat) (c p : Int) (st : Nat) (w : World) (h : RT w rb tb ao n cap f a k c p ⟨0, 0, 0, 0, [], false, st, 0⟩) (hst : noneC f st = 132) :
    Calls Tryz.prog 50 #[.pointer (some ⟨rb, 0, none⟩), .pointer (some ⟨tb, 0, none⟩), .int .i64 66] w (ROt w rb tb ao n cap f k c p st (edge f n st 6 8 10 a)) := by
  have C := redge_not rb tb ao n cap f a k c p ⟨0, 0, 0, 0, [], false, st, 0⟩ st w h rfl hst
  obtain ⟨o, ho⟩ : ∃ o, edge f n st 6 8 10 a = o := ⟨_, rfl⟩
  rw [ho] at C ⊢
  clear ho
  have S0 := h
  have U0 : T2 rb tb w w := lin.Turns.refl _ w
  have hne : ¬ tb = rb := h.ne
  have hne' : ¬ rb = tb := fun e => h.ne e.symm
  have hn := h.rs.nn
  have ha := h.rs.aa
  have hcc := h.rs.cc
  have hcm := h.rs.cm
  clear h
  obtain ⟨⟨c0, c1, c2, z1, z2⟩, ⟨k0, k1, k2, k3, k4, k5, k6, k7⟩, ⟨f0, f1, f2, f3, f4, f5, f6, f7⟩⟩ := S0.cells
  go_enter Tryz.func50, Tryz.ntmps50
  go_wp2_with fail
  refine C.mono ?_
  clear C
  cases o with
  | ok t1 a1 =>
    rintro e w1 ⟨rfl, S1, U1⟩
    go_wp2
    go_ret2
    exact ⟨rfl, S1, U1⟩
  | no cc1 pp1 =>
    rintro e w1 ⟨rfl, S1, U1⟩
    go_wp2
    go_ret2
    exact ⟨rfl, S1, U1⟩
set_option maxHeartbeats 4000000 in
set_option maxRecDepth 100000 in
theorem rout_k (rb tb : Nat) (ao : Option Addr) (n cap : Nat) (f : Nat → Int) (a k : Nat) (c p : Int) (st : Nat) (w : World) (h : RT w rb tb ao n cap f a k c p ⟨0, 0, 0, 0, [], false, st, 0⟩) (hst : noneC f st = 132) :
    Calls Tryz.prog 50 #[.pointer (some ⟨rb, 0, none⟩), .pointer (some ⟨tb, 0, none⟩), .int .i64 107] w (ROt w rb tb ao n cap f k c p st (back f n st a)) := by
  have C := rback rb tb ao n cap f a k c p  st w h hst
  obtain ⟨o, ho⟩ : ∃ o, back f n st a = o := ⟨_, rfl⟩
  rw [ho] at C ⊢
  clear ho
  have S0 := h
  have U0 : T2 rb tb w w := lin.Turns.refl _ w
  have hne : ¬ tb = rb := h.ne
  have hne' : ¬ rb = tb := fun e => h.ne e.symm
  have hn := h.rs.nn
  have ha := h.rs.aa
  have hcc := h.rs.cc
  have hcm := h.rs.cm
  clear h
  obtain ⟨⟨c0, c1, c2, z1, z2⟩, ⟨k0, k1, k2, k3, k4, k5, k6, k7⟩, ⟨f0, f1, f2, f3, f4, f5, f6, f7⟩⟩ := S0.cells
  go_enter Tryz.func50, Tryz.ntmps50
  go_wp2_with fail
  refine C.mono ?_
  clear C
  cases o with
  | ok t1 a1 =>
    rintro e w1 ⟨rfl, S1, U1⟩
    go_wp2
    go_ret2
    exact ⟨rfl, S1, U1⟩
  | no cc1 pp1 =>
    rintro e w1 ⟨rfl, S1, U1⟩
    go_wp2
    go_ret2
    exact ⟨rfl, S1, U1⟩
set_option maxHeartbeats 4000000 in
set_option maxRecDepth 100000 in
theorem rout_digit (rb tb : Nat) (ao : Option Addr) (n cap : Nat) (f : Nat → Int) (a k : Nat) (c p : Int) (st : Nat) (w : World) (h : RT w rb tb ao n cap f a k c p ⟨0, 0, 0, 0, [], false, st, 0⟩) (r : Int) (h1 : 49 ≤ r) (h2 : r ≤ 57) :
    Calls Tryz.prog 50 #[.pointer (some ⟨rb, 0, none⟩), .pointer (some ⟨tb, 0, none⟩), .int .i64 r] w (ROt w rb tb ao n cap f k c p st (.ok ⟨9, 0, r - 48, 0, [], false, 0, 0⟩ a)) := by
  have q65 : (r == 65) = false := by rw [beq_eq_false_iff_ne]; omega
  have q122 : (r == 122) = false := by rw [beq_eq_false_iff_ne]; omega
  have q88 : (r == 88) = false := by rw [beq_eq_false_iff_ne]; omega
  have q98 : (r == 98) = false := by rw [beq_eq_false_iff_ne]; omega
  have q66 : (r == 66) = false := by rw [beq_eq_false_iff_ne]; omega
  have q107 : (r == 107) = false := by rw [beq_eq_false_iff_ne]; omega
  have S0 := h
  have U0 : T2 rb tb w w := lin.Turns.refl _ w
  have hne : ¬ tb = rb := h.ne
  have hne' : ¬ rb = tb := fun e => h.ne e.symm
  have hn := h.rs.nn
  have ha := h.rs.aa
  have hcc := h.rs.cc
  have hcm := h.rs.cm
  clear h
  obtain ⟨⟨c0, c1, c2, z1, z2⟩, ⟨k0, k1, k2, k3, k4, k5, k6, k7⟩, ⟨f0, f1, f2, f3, f4, f5, f6, f7⟩⟩ := S0.cells
  go_enter Tryz.func50, Tryz.ntmps50
  have S1 := S0.t0 9
  have U1 := T2.put U0 0 (.int .i64 9)
  clear S0 U0
  have S2 := S1.t2 (r - 48)
  have U2 := T2.put U1 2 (.int .i64 (r - 48))
  clear S1 U1
  go_wp2
  go_ret2
  exact ⟨rfl, S2, U2⟩
set_option maxHeartbeats 4000000 in
set_option maxRecDepth 100000 in
theorem rout_none (rb tb : Nat) (ao : Option Addr) (n cap : Nat) (f : Nat → Int) (a k : Nat) (c p : Int) (st : Nat) (w : World) (h : RT w rb tb ao n cap f a k c p ⟨0, 0, 0, 0, [], false, st, 0⟩) (r : Int) (h0 : 0 ≤ r) (h01 : r ≤ 1114111) (h1 : ¬ (49 ≤ r ∧ r ≤ 57)) (n65 : ¬ r = 65) (n122 : ¬ r = 122) (n88 : ¬ r = 88) (n98 : ¬ r = 98) (n66 : ¬ r = 66) (n107 : ¬ r = 107) :
    Calls Tryz.prog 50 #[.pointer (some ⟨rb, 0, none⟩), .pointer (some ⟨tb, 0, none⟩), .int .i64 r] w (fun e w' => e = .returned (.tuple #[.bool false, .bool true]) ∧ RT w' rb tb ao n cap f a k c p ⟨0, 0, 0, 0, [], false, st, 0⟩ ∧ T2 rb tb w w') := by
  have q65 : (r == 65) = false := by rw [beq_eq_false_iff_ne]; omega
  have q122 : (r == 122) = false := by rw [beq_eq_false_iff_ne]; omega
  have q88 : (r == 88) = false := by rw [beq_eq_false_iff_ne]; omega
  have q98 : (r == 98) = false := by rw [beq_eq_false_iff_ne]; omega
  have q66 : (r == 66) = false := by rw [beq_eq_false_iff_ne]; omega
  have q107 : (r == 107) = false := by rw [beq_eq_false_iff_ne]; omega
  clear n65 n122 n88 n98 n66 n107
  rcases (show r < 49 ∨ (49 ≤ r ∧ 57 < r) from by omega) with h2 | ⟨h2, h3⟩
  ·
    clear h1
    have h4 : ¬ 49 ≤ r := by omega
    have S0 := h
    have U0 : T2 rb tb w w := lin.Turns.refl _ w
    have hne : ¬ tb = rb := h.ne
    have hne' : ¬ rb = tb := fun e => h.ne e.symm
    have hn := h.rs.nn
    have ha := h.rs.aa
    have hcc := h.rs.cc
    have hcm := h.rs.cm
    clear h
    obtain ⟨⟨c0, c1, c2, z1, z2⟩, ⟨k0, k1, k2, k3, k4, k5, k6, k7⟩, ⟨f0, f1, f2, f3, f4, f5, f6, f7⟩⟩ := S0.cells
    go_enter Tryz.func50, Tryz.ntmps50
    go_wp2
    go_ret2
    exact ⟨rfl, S0, U0⟩
  ·
    clear h1
    have h4 : ¬ r ≤ 57 := by omega
    have S0 := h
    have U0 : T2 rb tb w w := lin.Turns.refl _ w
    have hne : ¬ tb = rb := h.ne
    have hne' : ¬ rb = tb := fun e => h.ne e.symm
    have hn := h.rs.nn
    have ha := h.rs.aa
    have hcc := h.rs.cc
    have hcm := h.rs.cm
    clear h
    obtain ⟨⟨c0, c1, c2, z1, z2⟩, ⟨k0, k1, k2, k3, k4, k5, k6, k7⟩, ⟨f0, f1, f2, f3, f4, f5, f6, f7⟩⟩ := S0.cells
    go_enter Tryz.func50, Tryz.ntmps50
    go_wp2
    go_ret2
    exact ⟨rfl, S0, U0⟩
end Go.Proofs.YtlgkfnecahgedaaGreatDoor.tok
end

section
/- The document's expressions of properties: Canonical, prop. -/
set_option linter.unusedVariables false
set_option linter.unusedSimpArgs false
namespace Go.Proofs.YtlgkfnecahgedaaGreatDoor.tok
open Go.RowKit
open lin (BA Turns)

/-- What Canonical answers. -/
def canV (X : ByteArray) : List UInt8 × Int := if (nam.resolveV X).2.2 = 0 then (canonL (nam.resolveV X), 0) else ([], (nam.resolveV X).2.2)
set_option maxHeartbeats 2000000 in
set_option maxRecDepth 100000 in
theorem canonical_any (X : ByteArray) (w : World) (hs : X.size ≤ 140737488355327) :
    Calls Tryz.prog 86 #[.string X] w fun e w' => e = .returned (.tuple #[.string (BA (canV X).1), .int .i64 (canV X).2]) ∧ Below w.heap.size w w' := by
  have C := nam.rresolve_any X w hs
  have hsm := resolve_small X
  unfold canV
  obtain ⟨⟨v1, v2, v3⟩, hV⟩ : ∃ V, nam.resolveV X = V := ⟨_, rfl⟩
  rw [hV] at C hsm ⊢
  simp only [] at C hsm ⊢
  have hs1 : ByteArray.size ⟨#[103, 99, 61]⟩ = 3 := rfl
  have hs2 : ByteArray.size ⟨#[115, 99, 61]⟩ = 3 := rfl
  have hs3 : (BA v2).size ≤ 100 := hsm
  obtain ⟨Y, hY⟩ : ∃ Y, BA v2 = Y := ⟨_, rfl⟩
  have HE1 : Hid (BA ([103, 99, 61] ++ v2) = ⟨#[103, 99, 61]⟩ ++ Y) := by unfold Hid; rw [← hY]; exact (nam.BA_app [103, 99, 61] v2).symm
  have HE2 : Hid (BA ([115, 99, 61] ++ v2) = ⟨#[115, 99, 61]⟩ ++ Y) := by unfold Hid; rw [← hY]; exact (nam.BA_app [115, 99, 61] v2).symm
  have HE3 : Hid (BA v2 = Y) := hY
  rw [hY] at hs3 C
  clear hY hV hsm hs
  by_cases hv : v3 = 0
  · subst hv
    rw [if_pos rfl]
    rcases (show v1 = 1 ∨ v1 = 2 ∨ (¬ v1 = 1 ∧ ¬ v1 = 2) from by omega) with rfl | rfl | ⟨n1, n2⟩
    · rw [show canonL (1, v2, 0) = [103, 99, 61] ++ v2 from rfl, HE1.out]
      go_enter Tryz.func86, Tryz.ntmps86
      go_wp2_with fail
      refine C.mono ?_
      rintro e w1 ⟨rfl, B1⟩
      clear C
      go_wp2
      go_ret2
      exact ⟨rfl, B1⟩
    · rw [show canonL (2, v2, 0) = [115, 99, 61] ++ v2 from rfl, HE2.out]
      go_enter Tryz.func86, Tryz.ntmps86
      go_wp2_with fail
      refine C.mono ?_
      rintro e w1 ⟨rfl, B1⟩
      clear C
      go_wp2
      go_ret2
      exact ⟨rfl, B1⟩
    · rw [show canonL (v1, v2, 0) = v2 from by simp [canonL, n1, n2], HE3.out]
      have m1 : (v1 == 1) = false := by simp [n1]
      have m2 : (v1 == 2) = false := by simp [n2]
      go_enter Tryz.func86, Tryz.ntmps86
      go_wp2_with fail
      refine C.mono ?_
      rintro e w1 ⟨rfl, B1⟩
      clear C
      go_wp2
      go_ret2
      exact ⟨rfl, B1⟩
  · rw [if_neg hv]
    have m1 : (v3 == 0) = false := by simp [hv]
    have m2 : (v3 != 0) = true := by simp [hv]
    go_enter Tryz.func86, Tryz.ntmps86
    go_wp2_with fail
    refine C.mono ?_
    rintro e w1 ⟨rfl, B1⟩
    clear C
    go_wp2
    go_ret2
    exact ⟨rfl, B1⟩
end Go.Proofs.YtlgkfnecahgedaaGreatDoor.tok
end
