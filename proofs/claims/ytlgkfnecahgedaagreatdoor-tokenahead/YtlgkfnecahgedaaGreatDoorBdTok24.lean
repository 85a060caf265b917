/- Texts that the proof leans on, one behind the other. -/
import Derived.Test.YtlgkfnecahgedaaGreatDoorBdTok23
import Derived.Test.YtlgkfnecahgedaaGreatDoorBdTok8
import Derived.Lib.SlBytesConst
import Derived.Deep.QuietTactic
import Derived.BigQuiet
import Derived.ProofKit
import Derived.OpenShut
import Derived.Test.YtlgkfnecahgedaaGreatDoorBdTok11
import Derived.Test.YtlgkfnecahgedaaGreatDoorBdUtf2

section
/- The document's next: the token that stands there. -/
set_option linter.unusedVariables false
set_option linter.unusedSimpArgs false
namespace Go.Proofs.YtlgkfnecahgedaaGreatDoor.tok
open Go.RowKit
open lin (BA Turns)

section
variable (f : Nat → Int) (n : Nat)
theorem classR_eq {a : Nat} (k : Nat) (hl : a < n) : classR f n a k =
    if 0 < k ∧ f a = 38 ∧ at_ f n (a + 1) 38 = true then some (setT 1, k, a + 2)
    else if 0 < k ∧ f a = 45 ∧ at_ f n (a + 1) 45 = true then some (setT 2, k, a + 2)
    else if 0 < k ∧ f a = 126 ∧ at_ f n (a + 1) 126 = true then some (setT 3, k, a + 2)
    else if f a = 91 then (if at_ f n (a + 1) 94 = true then some (classT true, k + 1, a + 2) else some (classT false, k + 1, a + 1))
    else if 0 < k ∧ f a = 93 then some (bare 12, k - 1, a + 1)
    else if 0 < k ∧ f a = 45 then some (bare 13, k, a + 1)
    else none := by
  have A : ∀ c, (at_ f n a c = true) = (f a = c) := fun c => propext ((at_eq f n a c).trans ⟨fun h => h.2, fun h => ⟨hl, h⟩⟩)
  unfold classR
  simp only [has_1, has_2, Bool.and_eq_true, A, show ((38 : UInt8).toNat : Int) = 38 from rfl, show ((45 : UInt8).toNat : Int) = 45 from rfl, show ((126 : UInt8).toNat : Int) = 126 from rfl, show ((91 : UInt8).toNat : Int) = 91 from rfl, show ((94 : UInt8).toNat : Int) = 94 from rfl, show ((93 : UInt8).toNat : Int) = 93 from rfl]
theorem token_low {a : Nat} (k : Nat) (h0 : 0 ≤ f a) (hx : f a ≤ 127) (hl : a < n) : token f n a k = if f a = 92 then (escape f n a (a + 1) k).with_ k else if 0 < k then within f n (f a) (a + 1) k else outside f n a (f a) (a + 1) k := by
  unfold token
  rw [point_low h0 hx hl rfl, bind_ok]
end
set_option maxHeartbeats 2000000 in
theorem rnext (rb : Nat) (ao : Option Addr) (n cap : Nat) (f : Nat → Int) (a k : Nat) (c p : Int) (w : World) (h : Rs w rb ao n cap f a k c p) (hl : a < n) (hk2 : k < 1000000) :
    Calls Tryz.prog 17 #[.pointer (some ⟨rb, 0, none⟩)] w (RNx w rb ao n cap f a c p (token f n a k)) := by
  have hf := h.ff
  have h0 := (hf a).1
  have HC := classR_eq f n k hl
  have K : ∀ (t : Tk) (k' a' : Nat), classR f n a k = some (t, k', a') → token f n a k = .ok (t, k') a' → Calls Tryz.prog 17 #[.pointer (some ⟨rb, 0, none⟩)] w (RNx w rb ao n cap f a c p (token f n a k)) := fun t k' a' h1 h2 => by
    rw [h2]; exact nx_class rb ao n cap f a k c p w h hl hk2 t k' a' h1
  have hb92 : hasB f n a [92] = decide (f a = 92) := by rw [has_1]; unfold at_; simp [hl]; rfl
  have MN : ∀ x : Int, f a = x → ¬ x = 46 → ¬ x = 124 → ¬ x = 41 → ¬ x = 94 → ¬ x = 36 → ¬ x = 40 → ¬ x = 42 → ¬ x = 43 → ¬ x = 63 → ¬ x = 123 → ∀ W, RT W rb (w.heap.size + 1) ao n cap f a k c p ⟨0, 0, 0, 0, [], false, a, 0⟩ → Calls Tryz.prog 26 #[.pointer (some ⟨rb, 0, none⟩), .pointer (some ⟨w.heap.size + 1, 0, none⟩)] W (fun e w' => e = .returned (.tuple #[.bool false, .bool true]) ∧ RT w' rb (w.heap.size + 1) ao n cap f a k c p ⟨0, 0, 0, 0, [], false, a, 0⟩ ∧ T2 rb (w.heap.size + 1) W w') :=
    fun x hx n1 n2 n3 n4 n5 n6 n7 n8 n9 n10 W hW => rmk_none rb (w.heap.size + 1) ao n cap f a k c p a W hW hl x hx n1 n2 n3 n4 n5 n6 n7 n8 n9 n10
  by_cases hx : f a ≤ 127
  · have HT := token_low f n k h0 hx hl
    have hp := point_low h0 hx hl (rfl : f a = f a)
    by_cases h92 : f a = 92
    · rw [if_pos h92] at HT
      have hcn : classR f n a k = none := by
        rw [HC, if_neg (by omega), if_neg (by omega), if_neg (by omega), if_neg (by omega), if_neg (by omega), if_neg (by omega)]
      have hst : noneC f a = 132 := by unfold noneC; rw [if_neg (by omega), if_neg (by omega)]
      rw [HT]
      by_cases hk : k = 0
      · exact nx_esc0 rb ao n cap f a k c p w h hl hk2 hk hcn (MN 92 h92 (by decide) (by decide) (by decide) (by decide) (by decide) (by decide) (by decide) (by decide) (by decide) (by decide)) (by rw [hb92]; simp [h92]) hst _ rfl
      · exact nx_esck rb ao n cap f a k c p w h hl hk2 hk hcn (by rw [hb92]; simp [h92]) hst _ rfl
    · rw [if_neg h92] at HT
      have hnb : hasB f n a [92] = false := by rw [hb92]; simp [h92]
      by_cases hk : 0 < k
      · rw [if_pos hk] at HT
        have hk0 : ¬ k = 0 := by omega
        unfold within at HT
        by_cases h91 : f a = 91
        · rw [if_pos h91] at HT
          rw [if_neg (by omega), if_neg (by omega), if_neg (by omega), if_pos h91] at HC
          unfold class_ at HT
          by_cases h94 : at_ f n (a + 1) 94 = true
          · rw [if_pos h94] at HC HT; exact K _ _ _ HC HT
          · rw [if_neg h94] at HC HT; exact K _ _ _ HC HT
        rw [if_neg h91] at HT
        by_cases h93 : f a = 93
        · rw [if_pos h93] at HT
          rw [if_neg (by omega), if_neg (by omega), if_neg (by omega), if_neg h91, if_pos ⟨hk, h93⟩] at HC
          exact K _ _ _ HC HT
        rw [if_neg h93] at HT
        by_cases h38 : f a = 38 ∧ at_ f n (a + 1) 38 = true
        · rw [if_pos h38] at HT
          rw [if_pos ⟨hk, h38⟩] at HC
          exact K _ _ _ HC HT
        rw [if_neg h38] at HT
        rw [if_neg (fun hh => h38 hh.2)] at HC
        by_cases h45 : f a = 45 ∧ at_ f n (a + 1) 45 = true
        · rw [if_pos h45] at HT
          rw [if_pos ⟨hk, h45⟩] at HC
          exact K _ _ _ HC HT
        rw [if_neg h45] at HT
        rw [if_neg (fun hh => h45 hh.2)] at HC
        by_cases h126 : f a = 126 ∧ at_ f n (a + 1) 126 = true
        · rw [if_pos h126] at HT
          rw [if_pos ⟨hk, h126⟩] at HC
          exact K _ _ _ HC HT
        rw [if_neg h126] at HT
        rw [if_neg (fun hh => h126 hh.2), if_neg h91, if_neg (fun hh => h93 hh.2)] at HC
        by_cases h4 : f a = 45
        · rw [if_pos h4] at HT
          rw [if_pos ⟨hk, h4⟩] at HC
          exact K _ _ _ HC HT
        rw [if_neg h4] at HT
        rw [if_neg (fun hh => h4 hh.2)] at HC
        have R := nx_chrk rb ao n cap f a k c p w h hl hk2 hk0 HC hnb
        rw [hp, bind_ok, ← HT] at R
        exact R
      · have hk0 : k = 0 := by omega
        rw [if_neg hk] at HT
        rw [if_neg (fun hh => hk hh.1), if_neg (fun hh => hk hh.1), if_neg (fun hh => hk hh.1)] at HC
        unfold outside at HT
        by_cases h91 : f a = 91
        · rw [if_pos h91] at HT HC
          unfold class_ at HT
          by_cases h94 : at_ f n (a + 1) 94 = true
          · rw [if_pos h94] at HC HT; exact K _ _ _ HC HT
          · rw [if_neg h94] at HC HT; exact K _ _ _ HC HT
        rw [if_neg h91] at HT HC
        rw [if_neg (fun hh => hk hh.1), if_neg (fun hh => hk hh.1)] at HC
        have M : ∀ o : Out Tk, mark f n a (f a) (a + 1) = o → (∀ W, RT W rb (w.heap.size + 1) ao n cap f a k c p ⟨0, 0, 0, 0, [], false, a, 0⟩ → Calls Tryz.prog 26 #[.pointer (some ⟨rb, 0, none⟩), .pointer (some ⟨w.heap.size + 1, 0, none⟩)] W (ROt W rb (w.heap.size + 1) ao n cap f k c p a o)) → Calls Tryz.prog 17 #[.pointer (some ⟨rb, 0, none⟩)] w (RNx w rb ao n cap f a c p (token f n a k)) := fun o e ho => by
          rw [HT, e]; exact nx_mark rb ao n cap f a k c p w h hl hk2 hk0 o HC ho
        unfold mark at M
        by_cases n46 : f a = 46
        · exact M _ (if_pos n46) (fun W hW => rmk_dot rb (w.heap.size + 1) ao n cap f a k c p a W hW hl n46)
        rw [if_neg n46] at M
        by_cases n124 : f a = 124
        · exact M _ (if_pos n124) (fun W hW => rmk_bar rb (w.heap.size + 1) ao n cap f a k c p a W hW hl n124)
        rw [if_neg n124] at M
        by_cases n40 : f a = 40
        · exact M _ (if_pos n40) (fun W hW => rmk_open rb (w.heap.size + 1) ao n cap f a k c p a W hW hl n40 (by unfold noneC; rw [if_neg (by omega), if_pos n40]))
        rw [if_neg n40] at M
        by_cases n41 : f a = 41
        · exact M _ (if_pos n41) (fun W hW => rmk_shut rb (w.heap.size + 1) ao n cap f a k c p a W hW hl n41)
        rw [if_neg n41] at M
        by_cases n42 : f a = 42
        · exact M _ (if_pos n42) (fun W hW => rmk_star rb (w.heap.size + 1) ao n cap f a k c p a W hW hl n42)
        rw [if_neg n42] at M
        by_cases n43 : f a = 43
        · exact M _ (if_pos n43) (fun W hW => rmk_plus rb (w.heap.size + 1) ao n cap f a k c p a W hW hl n43)
        rw [if_neg n43] at M
        by_cases n63 : f a = 63
        · exact M _ (if_pos n63) (fun W hW => rmk_ask rb (w.heap.size + 1) ao n cap f a k c p a W hW hl n63)
        rw [if_neg n63] at M
        by_cases n123 : f a = 123
        · exact M _ (if_pos n123) (fun W hW => rmk_counts rb (w.heap.size + 1) ao n cap f a k c p a W hW hl n123 (by unfold noneC; rw [if_pos n123]))
        rw [if_neg n123] at M
        by_cases n94 : f a = 94
        · exact M _ (if_pos n94) (fun W hW => rmk_hat rb (w.heap.size + 1) ao n cap f a k c p a W hW hl n94)
        rw [if_neg n94] at M
        by_cases n36 : f a = 36
        · exact M _ (if_pos n36) (fun W hW => rmk_dollar rb (w.heap.size + 1) ao n cap f a k c p a W hW hl n36)
        have R := nx_chr0 rb ao n cap f a k c p w h hl hk2 hk0 HC (MN _ rfl n46 n124 n41 n94 n36 n40 n42 n43 n63 n123) hnb
        have HM : mark f n a (f a) (a + 1) = .ok (char (f a)) (a + 1) := by
          unfold mark
          rw [if_neg n46, if_neg n124, if_neg n40, if_neg n41, if_neg n42, if_neg n43, if_neg n63, if_neg n123, if_neg n94, if_neg n36]
        rw [HM] at HT
        rw [hp, bind_ok] at R
        rw [HT]
        exact R
  · have hcn : classR f n a k = none := by
      rw [HC, if_neg (by omega), if_neg (by omega), if_neg (by omega), if_neg (by omega), if_neg (by omega), if_neg (by omega)]
    have hnb : hasB f n a [92] = false := by rw [hb92]; simp; omega
    have HT : token f n a k = (point f n a).bind fun r a' => .ok (char r, k) a' := by
      unfold token
      cases hp : point f n a with
      | no c1 p1 => rfl
      | ok r a' =>
        have hi := point_inv f n hf hp
        have hr : 127 < r := by
          by_cases hh : r ≤ 127
          · have := (hi.2.2.2.2.1 hh).1; omega
          · omega
        rw [bind_ok, bind_ok, if_neg (by omega)]
        by_cases hk : 0 < k
        · rw [if_pos hk]
          unfold within
          rw [if_neg (by omega), if_neg (by omega), if_neg (by omega), if_neg (by omega), if_neg (by omega), if_neg (by omega)]
        · rw [if_neg hk]
          unfold outside mark
          rw [if_neg (by omega), if_neg (by omega), if_neg (by omega), if_neg (by omega), if_neg (by omega), if_neg (by omega), if_neg (by omega), if_neg (by omega), if_neg (by omega), if_neg (by omega), if_neg (by omega)]
          rfl
    rw [HT]
    by_cases hk : k = 0
    · exact nx_chr0 rb ao n cap f a k c p w h hl hk2 hk hcn (MN _ rfl (by omega) (by omega) (by omega) (by omega) (by omega) (by omega) (by omega) (by omega) (by omega) (by omega)) hnb
    · exact nx_chrk rb ao n cap f a k c p w h hl hk2 hk hcn hnb
end Go.Proofs.YtlgkfnecahgedaaGreatDoor.tok
end

section
/- The document's Scan: the same tokens, and the same fault. -/
set_option linter.unusedVariables false
set_option linter.unusedSimpArgs false
namespace Go.Proofs.YtlgkfnecahgedaaGreatDoor.tok
open Go.RowKit
open lin (BA Turns)

theorem rappended {w w1 W W' : World} {rb B : Nat} {ao : Option Addr} {n cap : Nat} {f : Nat → Int} {a k : Nat} {c p : Int} {tv : Value} {m : Nat} {xs : List Value} (hrb : rb < B) (hB : w.heap.size < B)
    (hbl : ∀ b off, ao = some ⟨b, off, none⟩ → b < B) (S : Rs w1 rb ao n cap f a k c p) (O : w1.ownsRow B 32 8 tv m xs) (G : w1.heap[w.heap.size]? = some (.cells #[.int .i64 0, .int .i64 0] 27 (0, 0))) (T : Below w.heap.size w w1)
    (hW : Below w1.heap.size w1 W) (hgr : W.grownBy W' tv.ownBlock) :
    Rs W' rb ao n cap f a k c p ∧ W'.heap[w.heap.size]? = some (.cells #[.int .i64 0, .int .i64 0] 27 (0, 0)) ∧ Below w.heap.size w W' := by
  have t1 : Turns (fun q => tv.ownBlock = some q) w1 W' := lin.Turns.trans (.of_below hW) (.of_grown hgr (fun _ e => e))
  have hlo : ∀ q, tv.ownBlock = some q → B ≤ q := fun q e => (O.lt _ e).1
  refine ⟨S.turns t1 (fun e => by have := hlo _ e; omega) (fun b off e e2 => by have := hlo _ e2; have := hbl b off e; omega), (t1.block w.heap.size (Array.getElem?_eq_some_iff.1 G).1 (fun e => by have := hlo _ e; omega)).trans G, ?_⟩
  exact ⟨t1.os.trans T.os, t1.tape.trans T.tape, t1.output.trans T.output, Nat.le_trans T.size t1.size, fun q hq => (t1.block q (Nat.lt_of_lt_of_le hq T.size) (fun e => by have := hlo _ e; omega)).trans (T.block q hq)⟩
set_option maxHeartbeats 8000000 in
set_option maxRecDepth 100000 in
theorem rscan_some (b off n cap : Nat) (f : Nat → Int) (w : World) (hcl : ∀ i, i < n → w.cell? ⟨b, off + i, none⟩ = some (.int .u8 (f i))) (hpos : 0 < n) (hn : n ≤ 2000) (hf : ∀ i, 0 ≤ f i ∧ f i ≤ 255) (hc : n ≤ cap) (hcm : cap ≤ 9223372036854775807) :
    Calls Tryz.prog 10 #[.slice (some ⟨b, off, none⟩) n cap] w fun e w' => ∃ tv, e = .returned (.tuple #[tv, .agg #[.int .i64 (scanA f n 0 0).2.1, .int .i64 (scanA f n 0 0).2.2]]) ∧ w'.ownsRow w.heap.size 32 8 tv (scanA f n 0 0).1.length (flatT (scanA f n 0 0).1) ∧ Below w.heap.size w w' := by
  obtain ⟨i0, hi, hz0, hz1, hz2⟩ := info_parts infoTok3
  have hbl := World.block_lt_of_cell? w _ (hcl 0 hpos)
  simp only [] at hbl
  have B0 := ((Below.refl w.heap.size w).alloc (Nat.le_refl _) (.cells #[.int .i64 0, .int .i64 0] 27)).alloc (by simp) (.cells #[.slice (some ⟨b, off, none⟩) n cap, .int .i64 0, .int .i64 0, .int .i64 0, .int .i64 0] 47)
  have S0 : Rs ((w.alloc (.cells #[.int .i64 0, .int .i64 0] 27)).alloc (.cells #[.slice (some ⟨b, off, none⟩) n cap, .int .i64 0, .int .i64 0, .int .i64 0, .int .i64 0] 47)) (w.heap.size + 1) (some ⟨b, off, none⟩) n cap f 0 0 0 0 := by
    refine ⟨?_, ⟨b, off, rfl, by omega, fun i hi => (B0.cell (World.block_lt_of_cell? w _ (hcl i hi))).trans (hcl i hi)⟩, hf, hpos, hn, hc, hcm, Nat.zero_le _, Nat.zero_le _⟩
    have := World.alloc_heap_new (w.alloc (.cells #[.int .i64 0, .int .i64 0] 27)) (.cells #[.slice (some ⟨b, off, none⟩) n cap, .int .i64 0, .int .i64 0, .int .i64 0, .int .i64 0] 47)
    simpa using this
  have G0 : ((w.alloc (.cells #[.int .i64 0, .int .i64 0] 27)).alloc (.cells #[.slice (some ⟨b, off, none⟩) n cap, .int .i64 0, .int .i64 0, .int .i64 0, .int .i64 0] 47)).heap[w.heap.size]? = some (.cells #[.int .i64 0, .int .i64 0] 27 (0, 0)) := (Below.heap_alloc _ _ _ (by simp)).trans (World.alloc_heap_new _ _)
  have hn1 : ¬ (2000 : Int) < (n : Int) := by omega
  obtain ⟨Q, hQ⟩ : ∃ Q, scanA f n 0 0 = Q := ⟨_, rfl⟩
  rw [hQ]
  have HQ : Hid (Q = ([] ++ (scanA f n 0 0).1, (scanA f n 0 0).2)) := by unfold Hid; rw [← hQ]; rfl
  have HS0 : Hid (Rs _ (w.heap.size + 1) (some ⟨b, off, none⟩) n cap f 0 0 0 0) := S0
  have HG0 : Hid (((w.alloc (.cells #[.int .i64 0, .int .i64 0] 27)).alloc (.cells #[.slice (some ⟨b, off, none⟩) n cap, .int .i64 0, .int .i64 0, .int .i64 0, .int .i64 0] 47)).heap[w.heap.size]? = some (.cells #[.int .i64 0, .int .i64 0] 27 (0, 0))) := G0
  have HB0 : Hid (Below w.heap.size w ((w.alloc (.cells #[.int .i64 0, .int .i64 0] 27)).alloc (.cells #[.slice (some ⟨b, off, none⟩) n cap, .int .i64 0, .int .i64 0, .int .i64 0, .int .i64 0] 47))) := B0
  clear hcl hf hQ S0 G0 B0
  go_enter Tryz.func10, Tryz.ntmps10
  go_wp2
  go_loopg [5] n (fun q v wr => ∃ (a k : Nat) (dn : List Tk), q = n - a ∧ a ≤ n ∧ k ≤ a ∧ dn.length ≤ a ∧ Hid (Q = (dn ++ (scanA f n a k).1, (scanA f n a k).2)) ∧ Hid (Rs wr (w.heap.size + 1) (some ⟨b, off, none⟩) n cap f a k 0 0) ∧ Hid (wr.ownsRow (w.heap.size + 2) 32 8 v dn.length (flatT dn)) ∧ Hid (wr.heap[w.heap.size]? = some (.cells #[.int .i64 0, .int .i64 0] 27 (0, 0))) ∧ Hid (Below w.heap.size w wr))
  case atStart => exact ⟨0, 0, [], rfl, Nat.zero_le _, Nat.le_refl _, Nat.le_refl _, HQ, HS0, World.ownsRow_nil _ _ _ _, HG0, HB0⟩
  case round =>
    obtain ⟨a, k, dn, hq, han, hka, hdn, HQ1, HS, HO, HG, HB⟩ := hrel
    clear HQ HS0 HG0 HB0
    obtain ⟨c0, c1, c2, c3, c4, z0, z1, z2, z3, z4⟩ := HS.out.cells
    have hbs := HB.out.size
    have hrs := HS.out.lt
    by_cases hlt : a < n
    · have hlt' : (a : Int) < (n : Int) := by omega
      have C := rnext (w.heap.size + 1) (some ⟨b, off, none⟩) n cap f a k 0 0 wr HS.out hlt (by omega)
      obtain ⟨o, ho⟩ : ∃ o, token f n a k = o := ⟨_, rfl⟩
      rw [ho] at C
      have HTK : Hid (token f n a k = o) := ho
      clear ho
      go_wp2_with fail
      refine C.mono ?_
      clear C
      cases o with
      | no c' p' =>
        rintro e w1 ⟨⟨t, rfl⟩, ⟨a1, k1, S1⟩, T1⟩
        obtain rfl : Q = (dn, c', p') := by rw [HQ1.out, scanA_no f n HTK.out hlt]; simp
        obtain ⟨t1, t2, t3, t4, t5, t6, t7, t8⟩ := t
        unfold Tk.val
        have O1 := own_tn HO.out T1 (by omega)
        have G1 := Tn.blk T1 HG.out (by omega)
        have B1 : Below w.heap.size w w1 := HB.out.trans (lin.Turns.below T1 (by omega) (fun k e => by omega))
        have hs1 := T1.size
        clear HS HO HG HB HQ1 HTK T1 c0 c1 c2 c3 c4 z0 z1 z2 z3 z4
        obtain ⟨W, hW⟩ : ∃ W, w1.alloc (.cells #[.int .i64 t1, .int .i64 t2, .int .i64 t3, .int .i64 t4, .string (BA t5), .bool t6, .int .i64 (t7 : Int), .int .i64 (t8 : Int)] 32) = W := ⟨_, rfl⟩
        have BW : Below w1.heap.size w1 W := by rw [← hW]; exact (Below.refl _ _).alloc (Nat.le_refl _) _
        have SW := S1.below BW
        have GW := (BW.block w.heap.size (Array.getElem?_eq_some_iff.1 G1).1).trans G1
        have OW := utf.own_below O1 BW
        have B2 := B1.trans (BW.mono B1.size)
        have HOW : Hid (W.ownsRow (w.heap.size + 2) 32 8 u5 dn.length (flatT dn)) := OW
        clear S1 O1 G1 B1 BW OW
        go_wp2
        clear hW
        obtain ⟨c0, c1, c2, c3, c4, z0, z1, z2, z3, z4⟩ := SW.cells
        obtain ⟨g0, g1, y0, y1⟩ := nam.blk2 GW
        have hne : ¬ w.heap.size = w.heap.size + 1 := by omega
        have hne2 : ¬ w.heap.size + 1 = w.heap.size := by omega
        go_region_held3 (fun w' => w'.cell? ⟨w.heap.size + 1, 3, none⟩ = some (.int .i64 c') ∧ w'.cell? ⟨w.heap.size + 1, 4, none⟩ = some (.int .i64 (p' : Int))) (go_keep) (fail)
        have OF := ownsRow_setCell_below (a := ⟨w.heap.size, 1, none⟩) (ownsRow_setCell_below (a := ⟨w.heap.size, 0, none⟩) (utf.own_below HOW.out (w' := W.drew) ⟨rfl, rfl, rfl, Nat.le_refl _, fun _ _ => rfl⟩) (by show w.heap.size < w.heap.size + 2; omega) (.int .i64 c')) (by show w.heap.size < w.heap.size + 2; omega) (.int .i64 (p' : Int))
        have BF := (B2.drew.setCell (p := ⟨w.heap.size, 0, none⟩) (Nat.le_refl _) (.int .i64 c')).setCell (p := ⟨w.heap.size, 1, none⟩) (Nat.le_refl _) (.int .i64 (p' : Int))
        have GF := set2 (w := W.drew) GW (.int .i64 c') (.int .i64 (p' : Int))
        go_wp2
        exact bodyPost_ret (results2 Tryz.results10 _ _ u5 w.heap.size _ _ _ _ rfl rfl GF Tryz.underlying27 rfl infoFault) rfl ⟨u5, rfl, own_lower OF (by omega), BF⟩
      | ok t a1 =>
        rintro e w1 ⟨rfl, S1, T1⟩
        have hv := token_val f n HTK.out (by omega)
        have HQ2 : Hid (Q = ((dn ++ [{ t.1 with s := a, e := a1 }]) ++ (scanA f n a1 t.2).1, (scanA f n a1 t.2).2)) := by
          unfold Hid; rw [HQ1.out, scanA_ok f n HTK.out hlt]; simp
        obtain ⟨⟨t1, t2, t3, t4, t5, t6, t7, t8⟩, k1⟩ := t
        simp only [] at hv HQ2 S1 ⊢
        unfold Tk.val
        simp only []
        have O1 := own_tn HO.out T1 (by omega)
        have G1 := Tn.blk T1 HG.out (by omega)
        have B1 : Below w.heap.size w w1 := HB.out.trans (lin.Turns.below T1 (by omega) (fun k e => by omega))
        have hs1 := T1.size
        have hown1 : w1.ownsRow (w.heap.size + 2) 32 8 u5 dn.length (flatT dn) := O1
        have HV : Hid (some w1.heap.size ≠ u5.ownBlock) := fun e => by have := (hown1.lt _ e.symm).2; omega
        have HRA : Hid (∀ W W', Below w1.heap.size w1 W → W.grownBy W' u5.ownBlock → Rs W' (w.heap.size + 1) (some ⟨b, off, none⟩) n cap f a1 k1 0 0 ∧ W'.heap[w.heap.size]? = some (.cells #[.int .i64 0, .int .i64 0] 27 (0, 0)) ∧ Below w.heap.size w W') := fun W W' h1 h2 =>
          rappended (B := w.heap.size + 2) (by omega) (by omega) (fun b' off' e => by cases e; omega) S1 hown1 G1 B1 h1 h2
        clear HS HO HG HB HQ1 HTK c0 c1 c2 c3 c4 z0 z1 z2 z3 z4 S1 O1 G1 B1 T1
        have hgm : n - a1 < gk := by omega
        go_wp2_with (at_builtin; refine wpList_append_own _ rfl _ _ 24 rfl (w.heap.size + 2) 32 i0 (.agg #[.int .i64 0, .int .i64 0, .int .i64 0, .int .i64 0, .string ⟨#[]⟩, .bool false, .int .i64 0, .int .i64 0]) 8 72 Tryz.underlying24 hi hz0 hz1 hz2 rfl (by decide) _ _ _ rfl ((hown1.alloc _).alloc _) ⟨w1.heap.size + 1, 0, none⟩ 1 1 (Tk.cells ⟨t1, t2, t3, t4, t5, t6, a, a1⟩) rfl rfl ?c1 ?c2 ?c3 ?c4 ?c5 ?_)
        case c1 => exact new8 (t := ⟨t1, t2, t3, t4, t5, t6, a, a1⟩) (ty := 32) (by
          have := World.alloc_heap_new (w1.alloc (.cells #[.int .i64 t1, .int .i64 t2, .int .i64 t3, .int .i64 t4, .string (BA t5), .bool t6, .int .i64 (a : Int), .int .i64 (a1 : Int)] 32)) (.cells #[.int .i64 t1, .int .i64 t2, .int .i64 t3, .int .i64 t4, .string (BA t5), .bool t6, .int .i64 (a : Int), .int .i64 (a1 : Int)] 32)
          rw [show (w1.alloc (.cells #[.int .i64 t1, .int .i64 t2, .int .i64 t3, .int .i64 t4, .string (BA t5), .bool t6, .int .i64 (a : Int), .int .i64 (a1 : Int)] 32)).heap.size = w1.heap.size + 1 by simp] at this
          exact this)
        case c2 => exact one8 ⟨t1, t2, t3, t4, t5, t6, a, a1⟩
        case c3 => unfold maxLen; omega
        case c4 => omega
        case c5 => simp; omega
        · intro v' w2 hown2 hgrow _
          obtain ⟨S2, G2, B2⟩ := HRA.out _ _ (((Below.refl _ w1).alloc (Nat.le_refl _) (.cells #[.int .i64 t1, .int .i64 t2, .int .i64 t3, .int .i64 t4, .string (BA t5), .bool t6, .int .i64 (a : Int), .int .i64 (a1 : Int)] 32)).alloc (by simp) (.cells #[.int .i64 t1, .int .i64 t2, .int .i64 t3, .int .i64 t4, .string (BA t5), .bool t6, .int .i64 (a : Int), .int .i64 (a1 : Int)] 32)) hgrow
          have R1 : w2.ownsRow (w.heap.size + 2) 32 8 v' (dn ++ [(⟨t1, t2, t3, t4, t5, t6, a, a1⟩ : Tk)]).length (flatT (dn ++ [(⟨t1, t2, t3, t4, t5, t6, a, a1⟩ : Tk)])) := by
            rw [flatT_append, flatT_one, List.length_append]; exact hown2
          clear hown2 hgrow hown1 HRA HV
          go_wp2
          go_roundg (n - a1)
          case measure => omega
          case rel => exact ⟨a1, k1, dn ++ [(⟨t1, t2, t3, t4, t5, t6, a, a1⟩ : Tk)], rfl, by omega, by omega, by simp; omega, HQ2, S2, R1, G2, B2⟩
    · obtain rfl : a = n := by omega
      obtain rfl : Q = (dn, 0, 0) := by rw [HQ1.out, scanA_end]; simp
      have hlt' : ¬ (a : Int) < (a : Int) := by omega
      obtain ⟨g0, g1, y0, y1⟩ := nam.blk2 HG.out
      have OF := ownsRow_setCell_below (a := ⟨w.heap.size, 1, none⟩) (ownsRow_setCell_below (a := ⟨w.heap.size, 0, none⟩) HO.out (by show w.heap.size < w.heap.size + 2; omega) (.int .i64 0)) (by show w.heap.size < w.heap.size + 2; omega) (.int .i64 0)
      have BF := (HB.out.setCell (p := ⟨w.heap.size, 0, none⟩) (Nat.le_refl _) (.int .i64 0)).setCell (p := ⟨w.heap.size, 1, none⟩) (Nat.le_refl _) (.int .i64 0)
      have GF := set2 (w := wr) HG.out (.int .i64 0) (.int .i64 0)
      clear HQ1
      go_wp2
      exact bodyPost_ret (results2 Tryz.results10 _ _ u5 w.heap.size _ _ _ _ rfl rfl GF Tryz.underlying27 rfl infoFault) rfl ⟨u5, rfl, own_lower OF (by omega), BF⟩
theorem rscan_any (ao : Option Addr) (n cap : Nat) (f : Nat → Int) (w : World) (hB : utf.IsB w ao n f) (hf : ∀ i, 0 ≤ f i ∧ f i ≤ 255) (hc : n ≤ cap) (hcm : cap ≤ 9223372036854775807) :
    Calls Tryz.prog 10 #[.slice ao n cap] w fun e w' => ∃ tv, e = .returned (.tuple #[tv, .agg #[.int .i64 (scanL f n).2.1, .int .i64 (scanL f n).2.2]]) ∧ w'.ownsRow w.heap.size 32 8 tv (scanL f n).1.length (flatT (scanL f n).1) ∧ Below w.heap.size w w' := by
  by_cases hn : n ≤ 2000
  · rw [scanL_A f n hn]
    rcases Nat.eq_zero_or_pos n with h0 | h0
    · subst h0
      rw [scanA_end]
      have GF : ((w.alloc (.cells #[.int .i64 0, .int .i64 0] 27)).alloc (.cells #[.slice ao 0 cap, .int .i64 0, .int .i64 0, .int .i64 0, .int .i64 0] 47)).heap[w.heap.size]? = some (.cells #[.int .i64 0, .int .i64 0] 27 (0, 0)) := (Below.heap_alloc _ _ _ (by simp)).trans (World.alloc_heap_new _ _)
      have BF := ((Below.refl w.heap.size w).alloc (Nat.le_refl _) (.cells #[.int .i64 0, .int .i64 0] 27)).alloc (by simp) (.cells #[.slice ao 0 cap, .int .i64 0, .int .i64 0, .int .i64 0, .int .i64 0] 47)
      clear hB
      go_enter Tryz.func10, Tryz.ntmps10
      go_wp2
      refine wp_loop_rounds 1 ?_
      rw [rounds_succ]
      go_wp2
      exact bodyPost_ret (results2 Tryz.results10 _ _ (.slice none 0 0) w.heap.size _ _ _ _ rfl rfl GF Tryz.underlying27 rfl infoFault) rfl ⟨.slice none 0 0, rfl, World.ownsRow_nil _ _ _ _, BF⟩
    · rcases hB with h1 | ⟨b, off, rfl, h1⟩
      · omega
      · exact rscan_some b off n cap f w h1 h0 hn hf hc hcm
  · have e : scanL f n = ([], 4, 2000) := by unfold scanL; rw [if_neg hn]
    rw [e]
    have hn1 : (2000 : Int) < (n : Int) := by omega
    have GF : (w.alloc (.cells #[.int .i64 4, .int .i64 2000] 27)).heap[w.heap.size]? = some (.cells #[.int .i64 4, .int .i64 2000] 27 (0, 0)) := World.alloc_heap_new _ _
    have BF := (Below.refl w.heap.size w).alloc (Nat.le_refl _) (.cells #[.int .i64 4, .int .i64 2000] 27)
    clear e hB
    go_enter Tryz.func10, Tryz.ntmps10
    go_wp2
    exact bodyPost_ret (results2 Tryz.results10 _ _ (.slice none 0 0) w.heap.size _ _ _ _ rfl rfl GF Tryz.underlying27 rfl infoFault) rfl ⟨.slice none 0 0, rfl, World.ownsRow_nil _ _ _ _, BF⟩
end Go.Proofs.YtlgkfnecahgedaaGreatDoor.tok
end

section
/- Tokens as they are read in memory; awake: tokens are told. -/
set_option linter.unusedVariables false
set_option linter.unusedSimpArgs false
namespace Go.Proofs.YtlgkfnecahgedaaGreatDoor.tok
open Go.RowKit
open lin (BA Turns)

/-- A token lies at cell off of block b. -/
structure TkAt (w : World) (b off : Nat) (t : Tk) : Prop where
  c0 : w.cell? ⟨b, off, none⟩ = some (.int .i64 t.kind)
  c1 : w.cell? ⟨b, off + 1, none⟩ = some (.int .i64 t.mode)
  c2 : w.cell? ⟨b, off + 2, none⟩ = some (.int .i64 t.a)
  c3 : w.cell? ⟨b, off + 3, none⟩ = some (.int .i64 t.b)
  c4 : w.cell? ⟨b, off + 4, none⟩ = some (.string (BA t.name))
  c5 : w.cell? ⟨b, off + 5, none⟩ = some (.bool t.neg)
  c6 : w.cell? ⟨b, off + 6, none⟩ = some (.int .i64 t.s)
  c7 : w.cell? ⟨b, off + 7, none⟩ = some (.int .i64 t.e)
theorem TkAt.below {w w' : World} {b off : Nat} {t : Tk} (h : TkAt w b off t) (hb : Below w.heap.size w w') : TkAt w' b off t := by
  have g : ∀ {o : Nat} {v : Value}, w.cell? ⟨b, o, none⟩ = some v → w'.cell? ⟨b, o, none⟩ = some v := fun e => (hb.cell (World.block_lt_of_cell? w _ e)).trans e
  exact ⟨g h.c0, g h.c1, g h.c2, g h.c3, g h.c4, g h.c5, g h.c6, g h.c7⟩
theorem TkAt.alloc {w : World} {b off : Nat} {t : Tk} (h : TkAt w b off t) (o : Obj) : TkAt (w.alloc o) b off t := h.below ((Below.refl _ _).alloc (Nat.le_refl _) o)
theorem flatT_get : ∀ (L : List Tk) (i j : Nat) (t : Tk), L[i]? = some t → j < 8 → (flatT L)[i * 8 + j]? = t.cells[j]?
  | [], i, j, t, h, _ => by simp at h
  | x :: L, 0, j, t, h, hj => by
    simp at h; subst h
    rw [show x :: L = [x] ++ L from rfl, flatT_append, flatT_one, List.getElem?_append_left (by simp [Tk.cells]; omega)]
    simp
  | x :: L, i + 1, j, t, h, hj => by
    have := flatT_get L i j t (by simpa using h) hj
    rw [show x :: L = [x] ++ L from rfl, flatT_append, flatT_one, List.getElem?_append_right (by simp [Tk.cells]; omega)]
    rw [show (i + 1) * 8 + j - x.cells.length = i * 8 + j from by simp [Tk.cells]; omega]
    exact this
/-- Tokens that are a row: the slice, and each where it lies. -/
theorem tok_view {w : World} {base : Nat} {v : Value} {L : List Tk} (h : w.ownsRow base 32 8 v L.length (flatT L)) :
    ∃ a c, v = .slice a L.length c ∧ L.length ≤ c ∧ (0 < L.length → ∃ g, a = some ⟨g, 0, none⟩ ∧ base ≤ g ∧ g < w.heap.size ∧ ∀ i t, L[i]? = some t → TkAt w g (i * 8) t) := by
  rcases h.2 with hn | ⟨g, cap, cur, rfl, hg, hgg, h3, h4, h5, h6⟩
  · obtain ⟨rfl, h0⟩ := hn
    have h0' : L.length = 0 := by simpa using h0
    rw [h0']
    exact ⟨_, _, rfl, Nat.le_refl _, fun h => by omega⟩
  · refine ⟨_, _, rfl, h3, fun _ => ⟨g, rfl, hg, (Array.getElem?_eq_some_iff.1 hgg).1, ?_⟩⟩
    intro i t ht
    have hi : i < L.length := (List.getElem?_eq_some_iff.1 ht).1
    have get : ∀ j, j < 8 → w.cell? ⟨g, i * 8 + j, none⟩ = t.cells[j]? := by
      intro j hj
      rw [cell_of_row w g (i * 8 + j) cur _ _ hgg, ← flatT_get L i j t ht hj, ← h6, List.getElem?_take_of_lt (by omega), Array.getElem?_toList]
    exact ⟨get 0 (by omega), get 1 (by omega), get 2 (by omega), get 3 (by omega), get 4 (by omega), get 5 (by omega), get 6 (by omega), get 7 (by omega)⟩

def awakeF : Nat → Int := fun i => ([97, 123, 50, 44, 51, 125, 63] : List Int).getD i 0
theorem awake_scan : scanL awakeF 7 = ([⟨1, 0, 97, 0, [], false, 0, 1⟩, ⟨6, 1, 2, 3, [], false, 1, 7⟩], 0, 0) := by kernel_rfl
theorem awakeF_in : ∀ i, 0 ≤ awakeF i ∧ awakeF i ≤ 255 := by
  intro i
  unfold awakeF
  rcases (show i = 0 ∨ i = 1 ∨ i = 2 ∨ i = 3 ∨ i = 4 ∨ i = 5 ∨ i = 6 ∨ 7 ≤ i from by omega) with rfl | rfl | rfl | rfl | rfl | rfl | rfl | h
  all_goals first | decide | skip
  rw [List.getD_eq_getElem?_getD, List.getElem?_eq_none (by simpa using h)]
  decide
set_option maxHeartbeats 2000000 in
set_option maxRecDepth 100000 in
theorem awake_any (w : World) (hm : utf.Marks w) : Calls Tryz.prog 13 #[] w fun e w' => e = .returned (.bool true) ∧ Below w.heap.size w w' := by
  have CV := Lib.run_convert_bytes_const (P := Tryz.prog) w 22 5 #[.int .u8 97, .int .u8 123, .int .u8 50, .int .u8 44, .int .u8 51, .int .u8 125, .int .u8 63] 7 7 Tryz.underlying22 Tryz.underlying5
  obtain ⟨W, hW⟩ : ∃ W, w.alloc (.cells #[.int .u8 97, .int .u8 123, .int .u8 50, .int .u8 44, .int .u8 51, .int .u8 125, .int .u8 63] 5 ((#[.int .u8 97, .int .u8 123, .int .u8 50, .int .u8 44, .int .u8 51, .int .u8 125, .int .u8 63] : Array Value).size, (#[.int .u8 97, .int .u8 123, .int .u8 50, .int .u8 44, .int .u8 51, .int .u8 125, .int .u8 63] : Array Value).size + 1)) = W := ⟨_, rfl⟩
  rw [hW] at CV
  have B0 : Below w.heap.size w W := by rw [← hW]; exact (Below.refl _ w).alloc (Nat.le_refl _) _
  have G0 : ∀ i, i < 7 → W.cell? ⟨w.heap.size, 0 + i, none⟩ = some (.int .u8 (awakeF i)) := by
    intro i hi
    rw [← hW, World.cell?_alloc_mark]
    rcases (show i = 0 ∨ i = 1 ∨ i = 2 ∨ i = 3 ∨ i = 4 ∨ i = 5 ∨ i = 6 from by omega) with rfl | rfl | rfl | rfl | rfl | rfl | rfl <;> rfl
  have C := scan_any (some ⟨w.heap.size, 0, none⟩) 7 7 awakeF W (.inr ⟨_, _, rfl, G0⟩) (hm.below B0) awakeF_in (by decide) (by decide)
  rw [awake_scan] at C
  have HB0 : Hid (Below w.heap.size w W) := B0
  clear B0 G0 hm hW
  go_enter Tryz.func13, Tryz.ntmps13
  go_wp2_with fail
  refine C.mono ?_
  rintro e w1 ⟨tv, rfl, O1, B1⟩
  clear C CV
  obtain ⟨ao, cp, rfl, hcp, hv⟩ := tok_view O1
  obtain ⟨g, rfl, -, hg, hv⟩ := hv (by decide)
  have T1 := hv 1 _ rfl
  have HB1 : Hid (Below w.heap.size w w1) := HB0.out.trans (B1.mono HB0.out.size)
  have k1 : ∀ o, (w1.alloc o).cell? ⟨g, 9, none⟩ = some (.int .i64 1) := fun o => (T1.alloc o).c1
  have k3 : ∀ o, (w1.alloc o).cell? ⟨g, 11, none⟩ = some (.int .i64 3) := fun o => (T1.alloc o).c3
  have hne : ¬ g = w1.heap.size := by omega
  clear O1 B1 hv T1 HB0
  go_wp2
  go_ret
  refine ⟨rfl, ?_⟩
  have := HB1.out
  (repeat' first | exact this | refine below_drewN ?_ _ | refine Below.setCell ?_ (by have := this.size; simp; omega) _ | refine Below.alloc ?_ (by have := this.size; simp; omega) _)
end Go.Proofs.YtlgkfnecahgedaaGreatDoor.tok
end

section
/- What slices.Equal answers of two rows of the same tokens: true. -/
set_option linter.unusedVariables false
set_option linter.unusedSimpArgs false
namespace Go.Proofs.YtlgkfnecahgedaaGreatDoor.tok
open Go.RowKit
open lin (BA Turns)

theorem tequal_none (a1 a2 : Option Addr) (c1 c2 : Nat) (w : World) :
    Calls Tryz.prog 11 #[.slice a1 0 c1, .slice a2 0 c2] w fun e w' => e = .returned (.bool true) ∧ Below w.heap.size w w' := by
  go_enter Tryz.func11, Tryz.ntmps11
  go_wp2
  refine wp_loop_rounds 1 ?_
  rw [rounds_succ]
  go_wp2
  go_ret
  exact ⟨rfl, Below.refl _ _⟩
theorem TkAt.deep8 {w : World} {b off : Nat} {t : Tk} (h : TkAt w b off t) : w.cell? ⟨b, off + 1 + 1, none⟩ = some (.int .i64 t.a) ∧ w.cell? ⟨b, off + 1 + 1 + 1, none⟩ = some (.int .i64 t.b) ∧ w.cell? ⟨b, off + 1 + 1 + 1 + 1, none⟩ = some (.string (BA t.name)) ∧ w.cell? ⟨b, off + 1 + 1 + 1 + 1 + 1, none⟩ = some (.bool t.neg) ∧ w.cell? ⟨b, off + 1 + 1 + 1 + 1 + 1 + 1, none⟩ = some (.int .i64 t.s) ∧ w.cell? ⟨b, off + 1 + 1 + 1 + 1 + 1 + 1 + 1, none⟩ = some (.int .i64 t.e) := ⟨h.c2, h.c3, h.c4, h.c5, h.c6, h.c7⟩
set_option maxHeartbeats 4000000 in
set_option maxRecDepth 100000 in
theorem tequal_some (b1 b2 n c1 c2 : Nat) (T : Nat → Tk) (w : World) (hn : n ≤ 9223372036854775807) (h1 : ∀ i, i < n → TkAt w b1 (i * 8) (T i)) (h2 : ∀ i, i < n → TkAt w b2 (i * 8) (T i)) :
    Calls Tryz.prog 11 #[.slice (some ⟨b1, 0, none⟩) n c1, .slice (some ⟨b2, 0, none⟩) n c2] w fun e w' => e = .returned (.bool true) ∧ Below w.heap.size w w' := by
  have H1 : Hid (∀ i, i < n → TkAt w b1 (i * 8) (T i)) := h1
  have H2 : Hid (∀ i, i < n → TkAt w b2 (i * 8) (T i)) := h2
  clear h1 h2
  have hnn : ((n : Int) != (n : Int)) = false := by simp
  go_enter Tryz.func11, Tryz.ntmps11
  go_wp2
  go_loopw [13] (fun i wr => ∃ k : Nat, k ≤ n ∧ i = .int .i64 k ∧ ∃ q, wr = w.drewN q) (fun i _ => n - (intOf i).toNat)
  case atStart => exact ⟨0, Nat.zero_le _, rfl, 0, rfl⟩
  case round =>
    obtain ⟨k, hk, rfl, q, rfl⟩ := hrel
    by_cases hlt : k < n
    · have hlt' : (k : Int) < (n : Int) := by omega
      have A1 := H1.out k hlt
      have A2 := H2.out k hlt
      generalize T k = t at *
      obtain ⟨t1, t2, t3, t4, t5, t6, t7, t8⟩ := t
      obtain ⟨p2, p3, p4, p5, p6, p7⟩ := A1.deep8
      obtain ⟨q2, q3, q4, q5, q6, q7⟩ := A2.deep8
      have p0 := A1.c0
      have p1 := A1.c1
      have q0 := A2.c0
      have q1 := A2.c1
      simp only [] at p0 p1 p2 p3 p4 p5 p6 p7 q0 q1 q2 q3 q4 q5 q6 q7
      clear A1 A2
      generalize BA t5 = X at *
      go_wp2
      go_quiet (fail)
      go_wp2
      go_roundw
      case rel => exact ⟨k + 1, by omega, by go_num, _, rfl⟩
      case measure => (first | simp [intOf] | simp [Go.RowKit.intOf]); omega
    · go_wp2
      go_ret
      exact ⟨rfl, below_drewN (Below.refl _ _) _⟩
/-- Two rows of the same tokens are equal. -/
theorem tequal_own {B1 B2 : Nat} {v1 v2 : Value} {L : List Tk} (w : World) (hL : L.length ≤ 1000000) (h1 : w.ownsRow B1 32 8 v1 L.length (flatT L)) (h2 : w.ownsRow B2 32 8 v2 L.length (flatT L)) :
    Calls Tryz.prog 11 #[v1, v2] w fun e w' => e = .returned (.bool true) ∧ Below w.heap.size w w' := by
  obtain ⟨a1, c1, rfl, -, k1⟩ := tok_view h1
  obtain ⟨a2, c2, rfl, -, k2⟩ := tok_view h2
  rcases Nat.eq_zero_or_pos L.length with h0 | h0
  · rw [h0]; exact tequal_none a1 a2 c1 c2 w
  · obtain ⟨g1, rfl, -, -, m1⟩ := k1 h0
    obtain ⟨g2, rfl, -, -, m2⟩ := k2 h0
    refine tequal_some g1 g2 L.length c1 c2 (fun i => L.getD i (char 0)) w (by omega) (fun i hi => m1 i _ ?_) (fun i hi => m2 i _ ?_) <;> simp [hi]
end Go.Proofs.YtlgkfnecahgedaaGreatDoor.tok
end

section
/- How a slice of bytes that came in as an argument reads. -/
set_option linter.unusedVariables false
namespace Go.Proofs.YtlgkfnecahgedaaGreatDoor.tok
open Go.ChangeShapes Go.WideShapes Go.ChangeAt Go.RowKit
open Go.Proofs.YtlgkfnecahgedaaGreatDoor.utf (IsB)

/-- Bytes that came in. -/
def ArgB (w : World) (v : Value) (n : Nat) (f : Nat → Int) : Prop :=
  ∃ ao cap, v = .slice ao n cap ∧ IsB w ao n f ∧ (∀ i, 0 ≤ f i ∧ f i ≤ 255) ∧ n ≤ cap ∧ cap ≤ 9223372036854775807 ∧ (ao = none → n = 0)
set_option maxRecDepth 1000000 in
theorem open_bytes {H : Type} {enc : TypeId × Value → H} {W : World} {base : Nat} {v : Value} {d : DataW H} {p : List MemPlace}
    (hv : Value.okWide Tryz.prog W .any base 22 v) (h : DataW.Trod enc Tryz.prog W 0 (fun _ => true) true 22 v d p) : ∃ n f, ArgB W v n f ∧ (n = 0 ∨ ∃ elems spare, d = .slice elems spare ∧ n ≤ elems.length) := by
  obtain ⟨ao, n, cap, rfl⟩ := okWide_slice Tryz.underlying22 hv
  obtain ⟨fuel, hf⟩ := h
  rcases open_ints Tryz.underlying22 Tryz.underlying5 (by kernel_rfl) hf with ⟨hcs, _⟩ | ⟨x, l, c, zs, hcs, _, hl, hm, hz, hx, hcell, hwz⟩
  · simp [Value.cells] at hcs
    obtain ⟨rfl, rfl, rfl⟩ := hcs
    exact ⟨0, fun _ => 0, ⟨none, 0, rfl, .inl rfl, fun _ => ⟨Int.le_refl 0, by show (0 : Int) ≤ 255; decide⟩, Nat.le_refl _, by omega, fun _ => rfl⟩, .inl rfl⟩
  · simp [Value.cells] at hcs
    obtain ⟨rfl, rfl, rfl⟩ := hcs
    simp at hz
    unfold maxLen at hm
    obtain ⟨rfl, rfl⟩ := Prod.mk.inj hx
    refine ⟨n, fun i => zs[i]?.getD 0, ⟨some x, cap, rfl, ?_, range_u8 hwz, hl, by omega, fun h => by cases h⟩, .inr ⟨_, _, rfl, ?_⟩⟩
    rotate_left
    · simp [lits]; omega
    rcases Nat.eq_zero_or_pos n with h0 | h0
    · exact .inl h0
    · obtain ⟨b, off, spot⟩ := x
      have hspot : spot = none := by simpa [Addr.add] using World.cell?_spot (hcell 0 (by omega))
      subst hspot
      exact .inr ⟨b, off, rfl, fun i hi => by rw [← Addr.add_lit]; simpa using hcell i (by omega)⟩
end Go.Proofs.YtlgkfnecahgedaaGreatDoor.tok
end

section
/- TokenScan: the walk. -/
set_option linter.unusedVariables false
set_option linter.unusedSimpArgs false
namespace Go.Proofs.YtlgkfnecahgedaaGreatDoor.tok
open Go.RowKit
open lin (BA Turns)

theorem scanL_small (f : Nat → Int) (n : Nat) : (scanL f n).1.length ≤ 2000 := by
  obtain ⟨b, h1, h2, -⟩ := scanL_chain f n
  unfold scanL at *
  split
  · rename_i h
    rw [if_pos h] at h1
    have := Chain.len h1
    omega
  · simp
end Go.Proofs.YtlgkfnecahgedaaGreatDoor.tok
end
