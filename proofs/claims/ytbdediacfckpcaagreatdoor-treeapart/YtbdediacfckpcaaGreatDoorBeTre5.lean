/- Texts that the proof leans on, one behind the other. -/
import Derived.Test.YtbdediacfckpcaaGreatDoorBeTre4

section
/- enclosed, body, inside of tree's writer. -/
set_option linter.unusedVariables false
set_option linter.unusedSimpArgs false
namespace Go.Proofs.YtbdediacfckpcaaGreatDoor.tre
open Go.RowKit nod
open Go.Proofs.YtbdediacfckpcaaGreatDoor.rng (R RV ret_int ret_bool below_drewN info_parts own_below')
open Go.Proofs.YtbdediacfckpcaaGreatDoor.tok (PEnv TX printL)

set_option maxRecDepth 10000 in
set_option maxHeartbeats 2000000 in
theorem enclosed_no {w0 W : World} {base g : Nat} {s : Wr} (c : Cx w0 W base g s) (op : ByteArray) (k m a b : Int) (ng : Bool) (n : ByteArray) (sa : Option Addr) (sl sc : Nat) (ao : Option Addr) (nk cap : Nat) (hk : ¬ (nk : Int) = 1) (hk2 : ¬ nk = 1) : Met 53 #[.pointer (some ⟨g, 0, none⟩), .string op, .agg #[.int .i64 k, .int .i64 m, .int .i64 a, .int .i64 b, .bool ng, .string n, .slice sa sl sc, .slice ao nk cap]] w0 W base g (none) := by
  have HS : Hid (Sn w0 W base g W.heap.size #[.int .i64 k, .int .i64 m, .int .i64 a, .int .i64 b, .bool ng, .string n, .slice sa sl sc, .slice ao nk cap] s (W.alloc (.cells #[.int .i64 k, .int .i64 m, .int .i64 a, .int .i64 b, .bool ng, .string n, .slice sa sl sc, .slice ao nk cap] 25))) := Sn.start c _
  unfold Met
  clear c
  go_enter Tryz.func53, Tryz.ntmps53
  go_wp2
  go_ret
  exact met_no (rfl) HS.out.kt
set_option maxRecDepth 10000 in
set_option maxHeartbeats 2000000 in
theorem enclosed_w {w0 W : World} {base g : Nat} {s : Wr} (c : Cx w0 W base g s) (op : ByteArray) (hop : op.size ≤ 9223372036854775807) (k m a b : Int) (ng : Bool) (n : ByteArray) (sa : Option Addr) (sl sc : Nat) (kb ko cap : Nat) (hcap : 1 ≤ cap) (c0 c1 c2 c3 c4 c5 c6 c7 : Value) (HA : Hid (At8 w0 kb ko (.agg #[c0, c1, c2, c3, c4, c5, c6, c7]))) (hkb : kb < base) (Pb : Wr → Option Wr) (HI : Hid (∀ W' s', Cx w0 W' base g s' → Met 22 #[.pointer (some ⟨g, 0, none⟩), .agg #[c0, c1, c2, c3, c4, c5, c6, c7]] w0 W' base g (Pb s'))) (hd : ∀ s1 s2, Pb s1 = some s2 → Gd s1 → s2.depth = s1.depth) : Met 53 #[.pointer (some ⟨g, 0, none⟩), .string op, .agg #[.int .i64 k, .int .i64 m, .int .i64 a, .int .i64 b, .bool ng, .string n, .slice sa sl sc, .slice (some ⟨kb, ko, none⟩) 1 cap]] w0 W base g ((enterO s op).bind fun s1 => (Pb s1).bind fun s2 => leaveO s2 ⟨#[41]⟩) := by
  have HS : Hid (Sn w0 W base g W.heap.size #[.int .i64 k, .int .i64 m, .int .i64 a, .int .i64 b, .bool ng, .string n, .slice sa sl sc, .slice (some ⟨kb, ko, none⟩) 1 cap] s (W.alloc (.cells #[.int .i64 k, .int .i64 m, .int .i64 a, .int .i64 b, .bool ng, .string n, .slice sa sl sc, .slice (some ⟨kb, ko, none⟩) 1 cap] 25))) := Sn.start c _
  have hgb := c.c.size
  unfold Met
  cases h1 : enterO s op with
  | none =>
    have HE : Hid (∀ W', Sn w0 W base g W.heap.size #[.int .i64 k, .int .i64 m, .int .i64 a, .int .i64 b, .bool ng, .string n, .slice sa sl sc, .slice (some ⟨kb, ko, none⟩) 1 cap] s W' → Calls Tryz.prog 64 #[.pointer (some ⟨g, 0, none⟩), .string op] W' fun e w' => e = .returned (.bool false) ∧ Kt base W w') := fun W' S => Met.sn_no (enter_met S.cx _ hop) h1 S
    clear c h1
    go_enter Tryz.func53, Tryz.ntmps53
    go_wp2_with (first
      | (go_at_call 64; refine (HE.out _ HS.out).mono ?_; rintro e w1 ⟨rfl, d⟩; have HZ : Hid (Kt base W w1) := d; clear d))
    go_ret
    exact met_no (rfl) HZ.out
  | some s1 =>
    have HE : Hid (∀ W', Sn w0 W base g W.heap.size #[.int .i64 k, .int .i64 m, .int .i64 a, .int .i64 b, .bool ng, .string n, .slice sa sl sc, .slice (some ⟨kb, ko, none⟩) 1 cap] s W' → Calls Tryz.prog 64 #[.pointer (some ⟨g, 0, none⟩), .string op] W' fun e w' => e = .returned (.bool true) ∧ Sn w0 W base g W.heap.size #[.int .i64 k, .int .i64 m, .int .i64 a, .int .i64 b, .bool ng, .string n, .slice sa sl sc, .slice (some ⟨kb, ko, none⟩) 1 cap] s1 w') := fun W' S => Met.sn_ok (enter_met S.cx _ hop) h1 S
    have hg := enter_gd h1 c.gd
    simp only [Option.bind_some]
    cases h2 : Pb s1 with
    | none =>
      have HJ : Hid (∀ W', Sn w0 W base g W.heap.size #[.int .i64 k, .int .i64 m, .int .i64 a, .int .i64 b, .bool ng, .string n, .slice sa sl sc, .slice (some ⟨kb, ko, none⟩) 1 cap] s1 W' → Calls Tryz.prog 22 #[.pointer (some ⟨g, 0, none⟩), .agg #[c0, c1, c2, c3, c4, c5, c6, c7]] W' fun e w' => e = .returned (.bool false) ∧ Kt base W w') := fun W' S => Met.sn_no (HI.out W' s1 S.cx) h2 S
      clear c h1 h2 HI hg
      go_enter Tryz.func53, Tryz.ntmps53
      go_wp2_with (first
        | (go_at_call 64; refine (HE.out _ HS.out).mono ?_; rintro e w1 ⟨rfl, d⟩; have HS1 : Hid (Sn w0 W base g W.heap.size #[.int .i64 k, .int .i64 m, .int .i64 a, .int .i64 b, .bool ng, .string n, .slice sa sl sc, .slice (some ⟨kb, ko, none⟩) 1 cap] s1 w1) := d; have x0 := d.bk.cell 0 (u := .int .i64 k) rfl; have x1 := d.bk.cell 1 (u := .int .i64 m) rfl; have x2 := d.bk.cell 2 (u := .int .i64 a) rfl; have x3 := d.bk.cell 3 (u := .int .i64 b) rfl; have x4 := d.bk.cell 4 (u := .bool ng) rfl; have x5 := d.bk.cell 5 (u := .string n) rfl; have x6 := d.bk.cell 6 (u := .slice sa sl sc) rfl; have x7 := d.bk.cell 7 (u := .slice (some ⟨kb, ko, none⟩) 1 cap) rfl; obtain ⟨k0, k1, k2, k3, k4, k5, k6, k7⟩ := d.kid HA.out hkb; clear d)
        | (go_at_call 22; refine (HJ.out _ HS1.out).mono ?_; rintro e w2 ⟨rfl, d⟩; have HZ : Hid (Kt base W w2) := d; clear d))
      go_ret
      exact met_no (rfl) HZ.out
    | some s2 =>
      have HJ : Hid (∀ W', Sn w0 W base g W.heap.size #[.int .i64 k, .int .i64 m, .int .i64 a, .int .i64 b, .bool ng, .string n, .slice sa sl sc, .slice (some ⟨kb, ko, none⟩) 1 cap] s1 W' → Calls Tryz.prog 22 #[.pointer (some ⟨g, 0, none⟩), .agg #[c0, c1, c2, c3, c4, c5, c6, c7]] W' fun e w' => e = .returned (.bool true) ∧ Sn w0 W base g W.heap.size #[.int .i64 k, .int .i64 m, .int .i64 a, .int .i64 b, .bool ng, .string n, .slice sa sl sc, .slice (some ⟨kb, ko, none⟩) 1 cap] s2 w') := fun W' S => Met.sn_ok (HI.out W' s1 S.cx) h2 S
      have hd2 := hd s1 s2 h2 hg.1
      have hl : 1 ≤ s2.depth := by have := hg.2; have := c.gd.g.d0; omega
      simp only [Option.bind_some]
      have HP : Hid (∀ W', Sn w0 W base g W.heap.size #[.int .i64 k, .int .i64 m, .int .i64 a, .int .i64 b, .bool ng, .string n, .slice sa sl sc, .slice (some ⟨kb, ko, none⟩) 1 cap] s2 W' → Calls Tryz.prog 66 #[.pointer (some ⟨g, 0, none⟩), .string ⟨#[41]⟩] W' fun e w' => e = .returned (.bool (leaveO s2 ⟨#[41]⟩).isSome) ∧ (∀ s', leaveO s2 ⟨#[41]⟩ = some s' → Cx w0 w' base g s') ∧ Kt base W w') := fun W' S => Met.sn (leave_met S.cx hl _ (by decide)) S
      generalize leaveO s2 ⟨#[41]⟩ = P at *
      clear c h1 h2 HI hg hd2 hl
      go_enter Tryz.func53, Tryz.ntmps53
      go_wp2_with (first
        | (go_at_call 64; refine (HE.out _ HS.out).mono ?_; rintro e w1 ⟨rfl, d⟩; have HS1 : Hid (Sn w0 W base g W.heap.size #[.int .i64 k, .int .i64 m, .int .i64 a, .int .i64 b, .bool ng, .string n, .slice sa sl sc, .slice (some ⟨kb, ko, none⟩) 1 cap] s1 w1) := d; have x0 := d.bk.cell 0 (u := .int .i64 k) rfl; have x1 := d.bk.cell 1 (u := .int .i64 m) rfl; have x2 := d.bk.cell 2 (u := .int .i64 a) rfl; have x3 := d.bk.cell 3 (u := .int .i64 b) rfl; have x4 := d.bk.cell 4 (u := .bool ng) rfl; have x5 := d.bk.cell 5 (u := .string n) rfl; have x6 := d.bk.cell 6 (u := .slice sa sl sc) rfl; have x7 := d.bk.cell 7 (u := .slice (some ⟨kb, ko, none⟩) 1 cap) rfl; obtain ⟨k0, k1, k2, k3, k4, k5, k6, k7⟩ := d.kid HA.out hkb; clear d)
        | (go_at_call 22; refine (HJ.out _ HS1.out).mono ?_; rintro e w2 ⟨rfl, d⟩; have HS2 : Hid (Sn w0 W base g W.heap.size #[.int .i64 k, .int .i64 m, .int .i64 a, .int .i64 b, .bool ng, .string n, .slice sa sl sc, .slice (some ⟨kb, ko, none⟩) 1 cap] s2 w2) := d; clear d)
        | (go_at_call 66; refine (HP.out _ HS2.out).mono ?_; rintro e w3 ⟨rfl, d1, d2⟩; have HT1 : Hid (∀ s', _ = some s' → Cx w0 w3 base g s') := d1; have HT2 : Hid (Kt base W w3) := d2; clear d1 d2))
      go_ret
      exact ⟨ret_bool (by first | rfl | simp), HT1.out, HT2.out⟩
set_option maxRecDepth 10000 in
set_option maxHeartbeats 2000000 in
theorem body_6 {w0 W : World} {base g : Nat} {s : Wr} (c : Cx w0 W base g s) (m a b : Int) (ng : Bool) (n : ByteArray) (sa : Option Addr) (sl sc : Nat) (ao : Option Addr) (nk cap : Nat)  (P : Option Wr) (HC : ∀ W', Cx w0 W' base g s → Met 32 #[.pointer (some ⟨g, 0, none⟩), .agg #[.int .i64 6, .int .i64 m, .int .i64 a, .int .i64 b, .bool ng, .string n, .slice sa sl sc, .slice ao nk cap]] w0 W' base g (P)) : Met 22 #[.pointer (some ⟨g, 0, none⟩), .agg #[.int .i64 6, .int .i64 m, .int .i64 a, .int .i64 b, .bool ng, .string n, .slice sa sl sc, .slice ao nk cap]] w0 W base g (P) := by
  have HS : Hid (Sn w0 W base g W.heap.size #[.int .i64 6, .int .i64 m, .int .i64 a, .int .i64 b, .bool ng, .string n, .slice sa sl sc, .slice ao nk cap] s (W.alloc (.cells #[.int .i64 6, .int .i64 m, .int .i64 a, .int .i64 b, .bool ng, .string n, .slice sa sl sc, .slice ao nk cap] 25))) := Sn.start c _
  have HP : Hid (∀ W', Sn w0 W base g W.heap.size #[.int .i64 6, .int .i64 m, .int .i64 a, .int .i64 b, .bool ng, .string n, .slice sa sl sc, .slice ao nk cap] s W' → Calls Tryz.prog 32 #[.pointer (some ⟨g, 0, none⟩), .agg #[.int .i64 6, .int .i64 m, .int .i64 a, .int .i64 b, .bool ng, .string n, .slice sa sl sc, .slice ao nk cap]] W' fun e w' => e = .returned (.bool (P).isSome) ∧ (∀ s', P = some s' → Cx w0 w' base g s') ∧ Kt base W w') := fun W' S => Met.sn (HC W' S.cx) S
  unfold Met
  clear c HC
  go_enter Tryz.func22, Tryz.ntmps22
  go_wp2_with (first
    | (go_at_call 32; refine (HP.out _ HS.out).mono ?_; rintro e w9 ⟨rfl, d1, d2⟩; have HT1 : Hid (∀ s', _ = some s' → Cx w0 w9 base g s') := d1; have HT2 : Hid (Kt base W w9) := d2; clear d1 d2))
  go_ret
  exact ⟨ret_bool (by first | rfl | simp), HT1.out, HT2.out⟩
set_option maxRecDepth 10000 in
set_option maxHeartbeats 2000000 in
theorem body_7 {w0 W : World} {base g : Nat} {s : Wr} (c : Cx w0 W base g s) (m a b : Int) (ng : Bool) (n : ByteArray) (sa : Option Addr) (sl sc : Nat) (ao : Option Addr) (nk cap : Nat)  (P : Option Wr) (HC : ∀ W', Cx w0 W' base g s → Met 33 #[.pointer (some ⟨g, 0, none⟩), .agg #[.int .i64 7, .int .i64 m, .int .i64 a, .int .i64 b, .bool ng, .string n, .slice sa sl sc, .slice ao nk cap]] w0 W' base g (P)) : Met 22 #[.pointer (some ⟨g, 0, none⟩), .agg #[.int .i64 7, .int .i64 m, .int .i64 a, .int .i64 b, .bool ng, .string n, .slice sa sl sc, .slice ao nk cap]] w0 W base g (P) := by
  have HS : Hid (Sn w0 W base g W.heap.size #[.int .i64 7, .int .i64 m, .int .i64 a, .int .i64 b, .bool ng, .string n, .slice sa sl sc, .slice ao nk cap] s (W.alloc (.cells #[.int .i64 7, .int .i64 m, .int .i64 a, .int .i64 b, .bool ng, .string n, .slice sa sl sc, .slice ao nk cap] 25))) := Sn.start c _
  have HP : Hid (∀ W', Sn w0 W base g W.heap.size #[.int .i64 7, .int .i64 m, .int .i64 a, .int .i64 b, .bool ng, .string n, .slice sa sl sc, .slice ao nk cap] s W' → Calls Tryz.prog 33 #[.pointer (some ⟨g, 0, none⟩), .agg #[.int .i64 7, .int .i64 m, .int .i64 a, .int .i64 b, .bool ng, .string n, .slice sa sl sc, .slice ao nk cap]] W' fun e w' => e = .returned (.bool (P).isSome) ∧ (∀ s', P = some s' → Cx w0 w' base g s') ∧ Kt base W w') := fun W' S => Met.sn (HC W' S.cx) S
  unfold Met
  clear c HC
  go_enter Tryz.func22, Tryz.ntmps22
  go_wp2_with (first
    | (go_at_call 33; refine (HP.out _ HS.out).mono ?_; rintro e w9 ⟨rfl, d1, d2⟩; have HT1 : Hid (∀ s', _ = some s' → Cx w0 w9 base g s') := d1; have HT2 : Hid (Kt base W w9) := d2; clear d1 d2))
  go_ret
  exact ⟨ret_bool (by first | rfl | simp), HT1.out, HT2.out⟩
set_option maxRecDepth 10000 in
set_option maxHeartbeats 2000000 in
theorem body_no {w0 W : World} {base g : Nat} {s : Wr} (c : Cx w0 W base g s) (k m a b : Int) (ng : Bool) (n : ByteArray) (sa : Option Addr) (sl sc : Nat) (ao : Option Addr) (nk cap : Nat) (k6 : (k == 6) = false) (k7 : (k == 7) = false) : Met 22 #[.pointer (some ⟨g, 0, none⟩), .agg #[.int .i64 k, .int .i64 m, .int .i64 a, .int .i64 b, .bool ng, .string n, .slice sa sl sc, .slice ao nk cap]] w0 W base g (none) := by
  have HS : Hid (Sn w0 W base g W.heap.size #[.int .i64 k, .int .i64 m, .int .i64 a, .int .i64 b, .bool ng, .string n, .slice sa sl sc, .slice ao nk cap] s (W.alloc (.cells #[.int .i64 k, .int .i64 m, .int .i64 a, .int .i64 b, .bool ng, .string n, .slice sa sl sc, .slice ao nk cap] 25))) := Sn.start c _
  unfold Met
  clear c
  go_enter Tryz.func22, Tryz.ntmps22
  go_wp2
  go_ret
  exact met_no (rfl) HS.out.kt
set_option maxRecDepth 10000 in
set_option maxHeartbeats 2000000 in
theorem inside_0 {w0 W : World} {base g : Nat} {s : Wr} (c : Cx w0 W base g s) (k a b : Int) (ng : Bool) (n : ByteArray) (sa : Option Addr) (sl sc : Nat) (ao : Option Addr) (nk cap : Nat)  (P : Option Wr) (HC : ∀ W', Cx w0 W' base g s → Met 85 #[.pointer (some ⟨g, 0, none⟩), .slice ao nk cap] w0 W' base g (P)) : Met 65 #[.pointer (some ⟨g, 0, none⟩), .agg #[.int .i64 k, .int .i64 0, .int .i64 a, .int .i64 b, .bool ng, .string n, .slice sa sl sc, .slice ao nk cap]] w0 W base g (P) := by
  have HS : Hid (Sn w0 W base g W.heap.size #[.int .i64 k, .int .i64 0, .int .i64 a, .int .i64 b, .bool ng, .string n, .slice sa sl sc, .slice ao nk cap] s (W.alloc (.cells #[.int .i64 k, .int .i64 0, .int .i64 a, .int .i64 b, .bool ng, .string n, .slice sa sl sc, .slice ao nk cap] 25))) := Sn.start c _
  have HP : Hid (∀ W', Sn w0 W base g W.heap.size #[.int .i64 k, .int .i64 0, .int .i64 a, .int .i64 b, .bool ng, .string n, .slice sa sl sc, .slice ao nk cap] s W' → Calls Tryz.prog 85 #[.pointer (some ⟨g, 0, none⟩), .slice ao nk cap] W' fun e w' => e = .returned (.bool (P).isSome) ∧ (∀ s', P = some s' → Cx w0 w' base g s') ∧ Kt base W w') := fun W' S => Met.sn (HC W' S.cx) S
  unfold Met
  clear c HC
  go_enter Tryz.func65, Tryz.ntmps65
  go_wp2_with (first
    | (go_at_call 85; refine (HP.out _ HS.out).mono ?_; rintro e w9 ⟨rfl, d1, d2⟩; have HT1 : Hid (∀ s', _ = some s' → Cx w0 w9 base g s') := d1; have HT2 : Hid (Kt base W w9) := d2; clear d1 d2))
  go_ret
  exact ⟨ret_bool (by first | rfl | simp), HT1.out, HT2.out⟩
set_option maxRecDepth 10000 in
set_option maxHeartbeats 2000000 in
theorem inside_1 {w0 W : World} {base g : Nat} {s : Wr} (c : Cx w0 W base g s) (k a b : Int) (ng : Bool) (n : ByteArray) (sa : Option Addr) (sl sc : Nat) (ao : Option Addr) (nk cap : Nat)  (P : Option Wr) (HC : ∀ W', Cx w0 W' base g s → Met 86 #[.pointer (some ⟨g, 0, none⟩), .agg #[.int .i64 k, .int .i64 1, .int .i64 a, .int .i64 b, .bool ng, .string n, .slice sa sl sc, .slice ao nk cap]] w0 W' base g (P)) : Met 65 #[.pointer (some ⟨g, 0, none⟩), .agg #[.int .i64 k, .int .i64 1, .int .i64 a, .int .i64 b, .bool ng, .string n, .slice sa sl sc, .slice ao nk cap]] w0 W base g (P) := by
  have HS : Hid (Sn w0 W base g W.heap.size #[.int .i64 k, .int .i64 1, .int .i64 a, .int .i64 b, .bool ng, .string n, .slice sa sl sc, .slice ao nk cap] s (W.alloc (.cells #[.int .i64 k, .int .i64 1, .int .i64 a, .int .i64 b, .bool ng, .string n, .slice sa sl sc, .slice ao nk cap] 25))) := Sn.start c _
  have HP : Hid (∀ W', Sn w0 W base g W.heap.size #[.int .i64 k, .int .i64 1, .int .i64 a, .int .i64 b, .bool ng, .string n, .slice sa sl sc, .slice ao nk cap] s W' → Calls Tryz.prog 86 #[.pointer (some ⟨g, 0, none⟩), .agg #[.int .i64 k, .int .i64 1, .int .i64 a, .int .i64 b, .bool ng, .string n, .slice sa sl sc, .slice ao nk cap]] W' fun e w' => e = .returned (.bool (P).isSome) ∧ (∀ s', P = some s' → Cx w0 w' base g s') ∧ Kt base W w') := fun W' S => Met.sn (HC W' S.cx) S
  unfold Met
  clear c HC
  go_enter Tryz.func65, Tryz.ntmps65
  go_wp2_with (first
    | (go_at_call 86; refine (HP.out _ HS.out).mono ?_; rintro e w9 ⟨rfl, d1, d2⟩; have HT1 : Hid (∀ s', _ = some s' → Cx w0 w9 base g s') := d1; have HT2 : Hid (Kt base W w9) := d2; clear d1 d2))
  go_ret
  exact ⟨ret_bool (by first | rfl | simp), HT1.out, HT2.out⟩
set_option maxRecDepth 10000 in
set_option maxHeartbeats 2000000 in
theorem inside_2 {w0 W : World} {base g : Nat} {s : Wr} (c : Cx w0 W base g s) (k a b : Int) (ng : Bool) (n : ByteArray) (sa : Option Addr) (sl sc : Nat) (ao : Option Addr) (nk cap : Nat)  (P : Option Wr) (HC : ∀ W', Cx w0 W' base g s → Met 86 #[.pointer (some ⟨g, 0, none⟩), .agg #[.int .i64 k, .int .i64 2, .int .i64 a, .int .i64 b, .bool ng, .string n, .slice sa sl sc, .slice ao nk cap]] w0 W' base g (P)) : Met 65 #[.pointer (some ⟨g, 0, none⟩), .agg #[.int .i64 k, .int .i64 2, .int .i64 a, .int .i64 b, .bool ng, .string n, .slice sa sl sc, .slice ao nk cap]] w0 W base g (P) := by
  have HS : Hid (Sn w0 W base g W.heap.size #[.int .i64 k, .int .i64 2, .int .i64 a, .int .i64 b, .bool ng, .string n, .slice sa sl sc, .slice ao nk cap] s (W.alloc (.cells #[.int .i64 k, .int .i64 2, .int .i64 a, .int .i64 b, .bool ng, .string n, .slice sa sl sc, .slice ao nk cap] 25))) := Sn.start c _
  have HP : Hid (∀ W', Sn w0 W base g W.heap.size #[.int .i64 k, .int .i64 2, .int .i64 a, .int .i64 b, .bool ng, .string n, .slice sa sl sc, .slice ao nk cap] s W' → Calls Tryz.prog 86 #[.pointer (some ⟨g, 0, none⟩), .agg #[.int .i64 k, .int .i64 2, .int .i64 a, .int .i64 b, .bool ng, .string n, .slice sa sl sc, .slice ao nk cap]] W' fun e w' => e = .returned (.bool (P).isSome) ∧ (∀ s', P = some s' → Cx w0 w' base g s') ∧ Kt base W w') := fun W' S => Met.sn (HC W' S.cx) S
  unfold Met
  clear c HC
  go_enter Tryz.func65, Tryz.ntmps65
  go_wp2_with (first
    | (go_at_call 86; refine (HP.out _ HS.out).mono ?_; rintro e w9 ⟨rfl, d1, d2⟩; have HT1 : Hid (∀ s', _ = some s' → Cx w0 w9 base g s') := d1; have HT2 : Hid (Kt base W w9) := d2; clear d1 d2))
  go_ret
  exact ⟨ret_bool (by first | rfl | simp), HT1.out, HT2.out⟩
set_option maxRecDepth 10000 in
set_option maxHeartbeats 2000000 in
theorem inside_3 {w0 W : World} {base g : Nat} {s : Wr} (c : Cx w0 W base g s) (k a b : Int) (ng : Bool) (n : ByteArray) (sa : Option Addr) (sl sc : Nat) (ao : Option Addr) (nk cap : Nat)  (P : Option Wr) (HC : ∀ W', Cx w0 W' base g s → Met 86 #[.pointer (some ⟨g, 0, none⟩), .agg #[.int .i64 k, .int .i64 3, .int .i64 a, .int .i64 b, .bool ng, .string n, .slice sa sl sc, .slice ao nk cap]] w0 W' base g (P)) : Met 65 #[.pointer (some ⟨g, 0, none⟩), .agg #[.int .i64 k, .int .i64 3, .int .i64 a, .int .i64 b, .bool ng, .string n, .slice sa sl sc, .slice ao nk cap]] w0 W base g (P) := by
  have HS : Hid (Sn w0 W base g W.heap.size #[.int .i64 k, .int .i64 3, .int .i64 a, .int .i64 b, .bool ng, .string n, .slice sa sl sc, .slice ao nk cap] s (W.alloc (.cells #[.int .i64 k, .int .i64 3, .int .i64 a, .int .i64 b, .bool ng, .string n, .slice sa sl sc, .slice ao nk cap] 25))) := Sn.start c _
  have HP : Hid (∀ W', Sn w0 W base g W.heap.size #[.int .i64 k, .int .i64 3, .int .i64 a, .int .i64 b, .bool ng, .string n, .slice sa sl sc, .slice ao nk cap] s W' → Calls Tryz.prog 86 #[.pointer (some ⟨g, 0, none⟩), .agg #[.int .i64 k, .int .i64 3, .int .i64 a, .int .i64 b, .bool ng, .string n, .slice sa sl sc, .slice ao nk cap]] W' fun e w' => e = .returned (.bool (P).isSome) ∧ (∀ s', P = some s' → Cx w0 w' base g s') ∧ Kt base W w') := fun W' S => Met.sn (HC W' S.cx) S
  unfold Met
  clear c HC
  go_enter Tryz.func65, Tryz.ntmps65
  go_wp2_with (first
    | (go_at_call 86; refine (HP.out _ HS.out).mono ?_; rintro e w9 ⟨rfl, d1, d2⟩; have HT1 : Hid (∀ s', _ = some s' → Cx w0 w9 base g s') := d1; have HT2 : Hid (Kt base W w9) := d2; clear d1 d2))
  go_ret
  exact ⟨ret_bool (by first | rfl | simp), HT1.out, HT2.out⟩
set_option maxRecDepth 10000 in
set_option maxHeartbeats 2000000 in
theorem inside_no {w0 W : World} {base g : Nat} {s : Wr} (c : Cx w0 W base g s) (k m a b : Int) (ng : Bool) (n : ByteArray) (sa : Option Addr) (sl sc : Nat) (ao : Option Addr) (nk cap : Nat) (m0 : (m == 0) = false) (m1 : (m == 1) = false) (m2 : (m == 2) = false) (m3 : (m == 3) = false) : Met 65 #[.pointer (some ⟨g, 0, none⟩), .agg #[.int .i64 k, .int .i64 m, .int .i64 a, .int .i64 b, .bool ng, .string n, .slice sa sl sc, .slice ao nk cap]] w0 W base g (none) := by
  have HS : Hid (Sn w0 W base g W.heap.size #[.int .i64 k, .int .i64 m, .int .i64 a, .int .i64 b, .bool ng, .string n, .slice sa sl sc, .slice ao nk cap] s (W.alloc (.cells #[.int .i64 k, .int .i64 m, .int .i64 a, .int .i64 b, .bool ng, .string n, .slice sa sl sc, .slice ao nk cap] 25))) := Sn.start c _
  unfold Met
  clear c
  go_enter Tryz.func65, Tryz.ntmps65
  go_wp2
  go_ret
  exact met_no (rfl) HS.out.kt
end Go.Proofs.YtbdediacfckpcaaGreatDoor.tre
end

section
/- The writer beside a class's two sides. -/
set_option linter.unusedVariables false
set_option linter.unusedSimpArgs false
namespace Go.Proofs.YtbdediacfckpcaaGreatDoor.tre
open Go.RowKit nod
open Go.Proofs.YtbdediacfckpcaaGreatDoor.rng (R RV ret_int ret_bool below_drewN info_parts own_below')
open Go.Proofs.YtbdediacfckpcaaGreatDoor.tok (PEnv TX printL)

/-- The writer s, the node that came in, and copies of its two kids. -/
structure SW (w0 W : World) (base g z : Nat) (box : Array Value) (p : Nat) (lx : Array Value) (q : Nat) (rx : Array Value) (s : Wr) (w' : World) : Prop where
  sn : Sn w0 W base g z box s w'
  bl : Bk w' p lx 25
  br : Bk w' q rx 25
theorem SW.quiet {w0 W w' w'' : World} {base g z p q : Nat} {box lx rx : Array Value} {s : Wr} (S : SW w0 W base g z box p lx q rx s w') (d : Below w'.heap.size w' w'') : SW w0 W base g z box p lx q rx s w'' :=
  ⟨S.sn.quiet d, S.bl.on d, S.br.on d⟩
theorem SW.wrote {w0 W w' w'' : World} {base g z p q : Nat} {box lx rx : Array Value} {s s' : Wr} (S : SW w0 W base g z box p lx q rx s w') (k : Kt base w' w'') (c : Cx w0 w'' base g s') : SW w0 W base g z box p lx q rx s' w'' :=
  ⟨S.sn.wrote k c, Bk.kt S.bl k nodeT.1 nodeT.2.1 nodeT.2.2, Bk.kt S.br k nodeT.1 nodeT.2.1 nodeT.2.2⟩
theorem Met.s2 {f : FuncId} {args : Array Value} {w0 W W' : World} {base g z p q : Nat} {box lx rx : Array Value} {s : Wr} {P : Option Wr} (h : Met f args w0 W' base g P) (S : SW w0 W base g z box p lx q rx s W') :
    Calls Tryz.prog f args W' fun e w' => e = .returned (.bool P.isSome) ∧ (∀ s', P = some s' → Cx w0 w' base g s') ∧ Kt base W w' := h.mono fun e w' ⟨h1, h2, h3⟩ => ⟨h1, h2, S.sn.kt.trans h3⟩
theorem Met.s2_no {f : FuncId} {args : Array Value} {w0 W W' : World} {base g z p q : Nat} {box lx rx : Array Value} {s : Wr} {P : Option Wr} (h : Met f args w0 W' base g P) (e : P = none) (S : SW w0 W base g z box p lx q rx s W') :
    Calls Tryz.prog f args W' fun e w' => e = .returned (.bool false) ∧ Kt base W w' := (h.no e).mono fun e w' ⟨h1, h3⟩ => ⟨h1, S.sn.kt.trans h3⟩
theorem Met.s2_ok {f : FuncId} {args : Array Value} {w0 W W' : World} {base g z p q : Nat} {box lx rx : Array Value} {s s' : Wr} {P : Option Wr} (h : Met f args w0 W' base g P) (e : P = some s') (S : SW w0 W base g z box p lx q rx s W') :
    Calls Tryz.prog f args W' fun e w' => e = .returned (.bool true) ∧ SW w0 W base g z box p lx q rx s' w' := (h.ok e).mono fun e w' ⟨h1, h2, h3⟩ => ⟨h1, S.wrote h3 h2⟩
theorem quiet2 {f : FuncId} {args : Array Value} {v : Value} {w0 W W' : World} {base g z p q : Nat} {box lx rx : Array Value} {s : Wr} (S : SW w0 W base g z box p lx q rx s W') (h : Calls Tryz.prog f args W' fun e w' => e = .returned v ∧ Below W'.heap.size W' w') :
    Calls Tryz.prog f args W' fun e w' => e = .returned v ∧ SW w0 W base g z box p lx q rx s w' := h.mono fun e w' ⟨h1, h2⟩ => ⟨h1, S.quiet h2⟩
theorem two_below (W1 : World) (o1 o2 : Obj) : Below W1.heap.size W1 ((W1.alloc o1).alloc o2).drew := Below.drew (below2 W1 o1 o2)
theorem SW.startA {w0 W W1 : World} {base g z z1 : Nat} {box lx rx : Array Value} {s : Wr} (S : Sn w0 W base g z box s W1) (hz : W1.heap.size = z1) : SW w0 W base g z box z1 lx (z1 + 1) rx s ((W1.alloc (.cells lx 25)).alloc (.cells rx 25)).drew := by
  subst hz
  have h1 : Bk ((W1.alloc (.cells lx 25)).alloc (.cells rx 25)) W1.heap.size lx 25 := (Bk.new W1 _ _).past _
  have h2 : Bk ((W1.alloc (.cells lx 25)).alloc (.cells rx 25)) (W1.heap.size + 1) rx 25 := bk2
  exact ⟨S.quiet (two_below W1 _ _), h1, h2⟩
theorem SW.startB {w0 W W1 : World} {base g z z1 : Nat} {box lx rx : Array Value} {s : Wr} (S : Sn w0 W base g z box s W1) (hz : W1.heap.size = z1) : SW w0 W base g z box (z1 + 1) lx z1 rx s ((W1.alloc (.cells rx 25)).alloc (.cells lx 25)).drew := by
  subst hz
  have h1 : Bk ((W1.alloc (.cells rx 25)).alloc (.cells lx 25)) W1.heap.size rx 25 := (Bk.new W1 _ _).past _
  have h2 : Bk ((W1.alloc (.cells rx 25)).alloc (.cells lx 25)) (W1.heap.size + 1) lx 25 := bk2
  exact ⟨S.quiet (two_below W1 _ _), h2, h1⟩
theorem less_gd {s : Wr} (g : Gd s) (h : 0 ≤ s.room - 2) : Gd (s.less 2) := by
  obtain ⟨⟨r0, r1, d0, d1, g0, g1, n1⟩, n⟩ := g
  exact ⟨⟨h, by show (s.text.length : Int) + (s.room - 2) ≤ 2000; omega, d0, d1, g0, g1, n1⟩, n⟩
theorem take_s2 {w0 W W' : World} {base g z p q : Nat} {box lx rx : Array Value} {s : Wr} (S : SW w0 W base g z box p lx q rx s W') (h : 0 ≤ s.room - 2) :
    Calls Tryz.prog 55 #[.pointer (some ⟨g, 0, none⟩), .int .i64 2] W' fun e w' => e = .returned (.bool true) ∧ SW w0 W base g z box p lx q rx (s.less 2) w' := by
  have C := take_any base g s 2 W' S.sn.cx.c.wr S.sn.cx.c.r0 (by have := S.sn.cx.c.r1; omega) (by omega) (by omega)
  rw [decide_eq_true h] at C
  have gg := less_gd S.sn.cx.gd h
  exact C.mono fun e w' ⟨h1, h2, h3⟩ => ⟨h1, S.wrote h3 ⟨S.sn.cx.c.to h3 h2 gg.g.r0 gg.g.r1, gg⟩⟩
theorem take_no2 {w0 W W' : World} {base g z p q : Nat} {box lx rx : Array Value} {s : Wr} (S : SW w0 W base g z box p lx q rx s W') (h : ¬ 0 ≤ s.room - 2) :
    Calls Tryz.prog 55 #[.pointer (some ⟨g, 0, none⟩), .int .i64 2] W' fun e w' => e = .returned (.bool false) ∧ Kt base W w' := by
  have C := take_any base g s 2 W' S.sn.cx.c.wr S.sn.cx.c.r0 (by have := S.sn.cx.c.r1; omega) (by omega) (by omega)
  rw [decide_eq_false h] at C
  exact C.mono fun e w' ⟨h1, h2, h3⟩ => ⟨h1, S.sn.kt.trans h3⟩
theorem write_s2 {w0 W W' : World} {base g z p q : Nat} {box lx rx : Array Value} {s : Wr} (S : SW w0 W base g z box p lx q rx s W') (O : ByteArray) (hO : O.size = 2) (gg : Gd (s.add O)) :
    Calls Tryz.prog 56 #[.pointer (some ⟨g, 0, none⟩), .string O] W' fun e w' => e = .returned (.tuple #[.int .i64 O.size, .nilIface]) ∧ SW w0 W base g z box p lx q rx (s.add O) w' := by
  have C := write_any base g s O W' S.sn.cx.c.wr (by have := S.sn.cx.c.r1; have := S.sn.cx.c.r0; omega)
  exact C.mono fun e w' ⟨h1, h2, h3⟩ => ⟨h1, S.wrote h3 ⟨S.sn.cx.c.to h3 h2 gg.g.r0 gg.g.r1, gg⟩⟩
set_option maxRecDepth 10000 in
set_option maxHeartbeats 2000000 in
theorem sides_few {w0 W : World} {base g : Nat} {s : Wr} (c : Cx w0 W base g s) (k m a b : Int) (ng : Bool) (n : ByteArray) (sa : Option Addr) (sl sc : Nat) (ao : Option Addr) (nk cap : Nat) (hk : ¬ (nk : Int) = 2) (hk2 : ¬ nk = 2) : Met 86 #[.pointer (some ⟨g, 0, none⟩), .agg #[.int .i64 k, .int .i64 m, .int .i64 a, .int .i64 b, .bool ng, .string n, .slice sa sl sc, .slice ao nk cap]] w0 W base g (none) := by
  have HS : Hid (Sn w0 W base g W.heap.size #[.int .i64 k, .int .i64 m, .int .i64 a, .int .i64 b, .bool ng, .string n, .slice sa sl sc, .slice ao nk cap] s (W.alloc (.cells #[.int .i64 k, .int .i64 m, .int .i64 a, .int .i64 b, .bool ng, .string n, .slice sa sl sc, .slice ao nk cap] 25))) := Sn.start c _
  unfold Met
  clear c
  go_enter Tryz.func86, Tryz.ntmps86
  go_wp2
  go_ret
  exact met_no (rfl) HS.out.kt
end Go.Proofs.YtbdediacfckpcaaGreatDoor.tre
end
