/- Texts that the proof leans on, one behind the other. -/
import Derived.Test.YtbdediacfckpcaaGreatDoorBeTre3

section
/- isSide, member and members of tree's writer. -/
set_option linter.unusedVariables false
set_option linter.unusedSimpArgs false
namespace Go.Proofs.YtbdediacfckpcaaGreatDoor.tre
open Go.RowKit nod
open Go.Proofs.YtbdediacfckpcaaGreatDoor.rng (R RV ret_int ret_bool below_drewN info_parts own_below')
open Go.Proofs.YtbdediacfckpcaaGreatDoor.tok (PEnv TX printL)

set_option maxRecDepth 10000 in
set_option maxHeartbeats 2000000 in
theorem isSide_any (k m a b : Int) (ng : Bool) (n : ByteArray) (st : List R) (ks : List Nd) (sa : Option Addr) (sl sc : Nat) (ao : Option Addr) (nk cap : Nat) (w : World) (hsl : st.length = sl) (hnk : ks.length = nk) :
    Calls Tryz.prog 104 #[.agg #[.int .i64 k, .int .i64 m, .int .i64 a, .int .i64 b, .bool ng, .string n, .slice sa sl sc, .slice ao nk cap]] w fun e w' => e = .returned (.bool (sideB (.mk k m a b ng n st ks))) ∧ Below w.heap.size w w' := by
  have HB : Hid (Below w.heap.size w (w.alloc (.cells #[.int .i64 k, .int .i64 m, .int .i64 a, .int .i64 b, .bool ng, .string n, .slice sa sl sc, .slice ao nk cap] 25))) := (Below.refl _ w).alloc (Nat.le_refl _) _
  have C := oz_any k m a b ng n st ks sa sl sc ao nk cap (w.alloc (.cells #[.int .i64 k, .int .i64 m, .int .i64 a, .int .i64 b, .bool ng, .string n, .slice sa sl sc, .slice ao nk cap] 25)) hsl hnk
  rw [sideB]
  generalize othersZ (.mk k m a b ng n st ks) = q at *
  by_cases ck : k = 3
  · subst ck
    cases ng
    · go_enter Tryz.func104, Tryz.ntmps104
      go_wp2_with (go_at_call 38; refine C.mono ?_; rintro e w1 ⟨rfl, d⟩; have HW : Hid (Below w.heap.size w w1) := HB.out.trans (below_less d (by simp)); clear d)
      go_ret
      exact ⟨ret_bool (by simp), HW.out⟩
    · clear C
      go_enter Tryz.func104, Tryz.ntmps104
      go_wp2
      go_ret
      exact ⟨ret_bool (by simp), HB.out⟩
  · have f : (k == 3) = false := by simpa using ck
    clear C
    go_enter Tryz.func104, Tryz.ntmps104
    go_wp2
    go_ret
    exact ⟨ret_bool (by simp [f]), HB.out⟩
set_option maxRecDepth 10000 in
set_option maxHeartbeats 2000000 in
theorem member_no {w0 W : World} {base g : Nat} {s : Wr} (c : Cx w0 W base g s) (k m a b : Int) (ng : Bool) (n : ByteArray) (sa : Option Addr) (sl sc : Nat) (ao : Option Addr) (nk cap : Nat) (st : List R) (ks : List Nd) (hsl : st.length = sl) (hnk : ks.length = nk) (ho : othersZ (.mk k m a b ng n st ks) = false) (P : Option Wr) (hP : P = none) : Met 103 #[.pointer (some ⟨g, 0, none⟩), .agg #[.int .i64 k, .int .i64 m, .int .i64 a, .int .i64 b, .bool ng, .string n, .slice sa sl sc, .slice ao nk cap]] w0 W base g (P) := by
  have HS : Hid (Sn w0 W base g W.heap.size #[.int .i64 k, .int .i64 m, .int .i64 a, .int .i64 b, .bool ng, .string n, .slice sa sl sc, .slice ao nk cap] s (W.alloc (.cells #[.int .i64 k, .int .i64 m, .int .i64 a, .int .i64 b, .bool ng, .string n, .slice sa sl sc, .slice ao nk cap] 25))) := Sn.start c _
  have HO : Hid (∀ W', Sn w0 W base g W.heap.size #[.int .i64 k, .int .i64 m, .int .i64 a, .int .i64 b, .bool ng, .string n, .slice sa sl sc, .slice ao nk cap] s W' → Calls Tryz.prog 38 #[.agg #[.int .i64 k, .int .i64 m, .int .i64 a, .int .i64 b, .bool ng, .string n, .slice sa sl sc, .slice ao nk cap]] W' fun e w' => e = .returned (.bool false) ∧ Sn w0 W base g W.heap.size #[.int .i64 k, .int .i64 m, .int .i64 a, .int .i64 b, .bool ng, .string n, .slice sa sl sc, .slice ao nk cap] s w') := fun W' S => oz_sn S (k) (m) (a) (b) (ng) (n) st ks sa sl sc ao nk cap hsl hnk _ ho
  unfold Met
  clear c
  go_enter Tryz.func103, Tryz.ntmps103
  go_wp2_with (first
    | (go_at_call 38; refine (HO.out _ HS.out).mono ?_; rintro e w1 ⟨rfl, d⟩; have HS1 : Hid (Sn w0 W base g W.heap.size #[.int .i64 k, .int .i64 m, .int .i64 a, .int .i64 b, .bool ng, .string n, .slice sa sl sc, .slice ao nk cap] s w1) := d; clear d))
  go_ret
  exact met_no (hP) HS1.out.kt
set_option maxRecDepth 10000 in
set_option maxHeartbeats 2000000 in
theorem member_other {w0 W : World} {base g : Nat} {s : Wr} (c : Cx w0 W base g s) (k m a b : Int) (ng : Bool) (n : ByteArray) (sa : Option Addr) (sl sc : Nat) (ao : Option Addr) (nk cap : Nat) (st : List R) (ks : List Nd) (hsl : st.length = sl) (hnk : ks.length = nk) (ho : othersZ (.mk k m a b ng n st ks) = true) (P : Option Wr) (hP : P = none) (k1 : (k == 1) = false) (k4 : (k == 4) = false) (k5 : (k == 5) = false) (k3 : (k == 3) = false) : Met 103 #[.pointer (some ⟨g, 0, none⟩), .agg #[.int .i64 k, .int .i64 m, .int .i64 a, .int .i64 b, .bool ng, .string n, .slice sa sl sc, .slice ao nk cap]] w0 W base g (P) := by
  have HS : Hid (Sn w0 W base g W.heap.size #[.int .i64 k, .int .i64 m, .int .i64 a, .int .i64 b, .bool ng, .string n, .slice sa sl sc, .slice ao nk cap] s (W.alloc (.cells #[.int .i64 k, .int .i64 m, .int .i64 a, .int .i64 b, .bool ng, .string n, .slice sa sl sc, .slice ao nk cap] 25))) := Sn.start c _
  have HO : Hid (∀ W', Sn w0 W base g W.heap.size #[.int .i64 k, .int .i64 m, .int .i64 a, .int .i64 b, .bool ng, .string n, .slice sa sl sc, .slice ao nk cap] s W' → Calls Tryz.prog 38 #[.agg #[.int .i64 k, .int .i64 m, .int .i64 a, .int .i64 b, .bool ng, .string n, .slice sa sl sc, .slice ao nk cap]] W' fun e w' => e = .returned (.bool true) ∧ Sn w0 W base g W.heap.size #[.int .i64 k, .int .i64 m, .int .i64 a, .int .i64 b, .bool ng, .string n, .slice sa sl sc, .slice ao nk cap] s w') := fun W' S => oz_sn S (k) (m) (a) (b) (ng) (n) st ks sa sl sc ao nk cap hsl hnk _ ho
  unfold Met
  clear c
  go_enter Tryz.func103, Tryz.ntmps103
  go_wp2_with (first
    | (go_at_call 38; refine (HO.out _ HS.out).mono ?_; rintro e w1 ⟨rfl, d⟩; have HS1 : Hid (Sn w0 W base g W.heap.size #[.int .i64 k, .int .i64 m, .int .i64 a, .int .i64 b, .bool ng, .string n, .slice sa sl sc, .slice ao nk cap] s w1) := d; have x0 := d.bk.cell 0 (u := .int .i64 k) rfl; have x1 := d.bk.cell 1 (u := .int .i64 m) rfl; have x2 := d.bk.cell 2 (u := .int .i64 a) rfl; have x3 := d.bk.cell 3 (u := .int .i64 b) rfl; have x4 := d.bk.cell 4 (u := .bool ng) rfl; have x5 := d.bk.cell 5 (u := .string n) rfl; have x6 := d.bk.cell 6 (u := .slice sa sl sc) rfl; have x7 := d.bk.cell 7 (u := .slice ao nk cap) rfl; clear d))
  go_ret
  exact met_no (hP) HS1.out.kt
set_option maxRecDepth 10000 in
set_option maxHeartbeats 2000000 in
theorem member_1 {w0 W : World} {base g : Nat} {s : Wr} (c : Cx w0 W base g s) (m a b : Int) (ng : Bool) (n : ByteArray) (sa : Option Addr) (sl sc : Nat) (ao : Option Addr) (nk cap : Nat) (st : List R) (ks : List Nd) (hsl : st.length = sl) (hnk : ks.length = nk) (ho : othersZ (.mk 1 m a b ng n st ks) = true) (hsz : (TX (printL a true)).size ≤ 9223372036854775807) : Met 103 #[.pointer (some ⟨g, 0, none⟩), .agg #[.int .i64 1, .int .i64 m, .int .i64 a, .int .i64 b, .bool ng, .string n, .slice sa sl sc, .slice ao nk cap]] w0 W base g (putO s (TX (printL a true))) := by
  have HS : Hid (Sn w0 W base g W.heap.size #[.int .i64 1, .int .i64 m, .int .i64 a, .int .i64 b, .bool ng, .string n, .slice sa sl sc, .slice ao nk cap] s (W.alloc (.cells #[.int .i64 1, .int .i64 m, .int .i64 a, .int .i64 b, .bool ng, .string n, .slice sa sl sc, .slice ao nk cap] 25))) := Sn.start c _
  have HO : Hid (∀ W', Sn w0 W base g W.heap.size #[.int .i64 1, .int .i64 m, .int .i64 a, .int .i64 b, .bool ng, .string n, .slice sa sl sc, .slice ao nk cap] s W' → Calls Tryz.prog 38 #[.agg #[.int .i64 1, .int .i64 m, .int .i64 a, .int .i64 b, .bool ng, .string n, .slice sa sl sc, .slice ao nk cap]] W' fun e w' => e = .returned (.bool true) ∧ Sn w0 W base g W.heap.size #[.int .i64 1, .int .i64 m, .int .i64 a, .int .i64 b, .bool ng, .string n, .slice sa sl sc, .slice ao nk cap] s w') := fun W' S => oz_sn S (1) (m) (a) (b) (ng) (n) st ks sa sl sc ao nk cap hsl hnk _ ho
  have HQ : Hid (∀ W', Sn w0 W base g W.heap.size #[.int .i64 1, .int .i64 m, .int .i64 a, .int .i64 b, .bool ng, .string n, .slice sa sl sc, .slice ao nk cap] s W' → Calls Tryz.prog 48 #[.int .i64 a, .bool true] W' fun e w' => e = .returned (.string (TX (printL a true))) ∧ Sn w0 W base g W.heap.size #[.int .i64 1, .int .i64 m, .int .i64 a, .int .i64 b, .bool ng, .string n, .slice sa sl sc, .slice ao nk cap] s w') := fun W' S => quiet_of S (tok.print_any a true W' S.cx.c.penv)
  have HP : Hid (∀ W', Sn w0 W base g W.heap.size #[.int .i64 1, .int .i64 m, .int .i64 a, .int .i64 b, .bool ng, .string n, .slice sa sl sc, .slice ao nk cap] s W' → Calls Tryz.prog 40 #[.pointer (some ⟨g, 0, none⟩), .string (TX (printL a true))] W' fun e w' => e = .returned (.bool (putO s (TX (printL a true))).isSome) ∧ (∀ s', putO s (TX (printL a true)) = some s' → Cx w0 w' base g s') ∧ Kt base W w') := fun W' S => Met.sn (put_met S.cx _ hsz) S
  unfold Met
  generalize putO s (TX (printL a true)) = P at *
  generalize TX (printL a true) = T at *
  clear c
  go_enter Tryz.func103, Tryz.ntmps103
  go_wp2_with (first
    | (go_at_call 38; refine (HO.out _ HS.out).mono ?_; rintro e w1 ⟨rfl, d⟩; have HS1 : Hid (Sn w0 W base g W.heap.size #[.int .i64 1, .int .i64 m, .int .i64 a, .int .i64 b, .bool ng, .string n, .slice sa sl sc, .slice ao nk cap] s w1) := d; have x0 := d.bk.cell 0 (u := .int .i64 1) rfl; have x1 := d.bk.cell 1 (u := .int .i64 m) rfl; have x2 := d.bk.cell 2 (u := .int .i64 a) rfl; have x3 := d.bk.cell 3 (u := .int .i64 b) rfl; have x4 := d.bk.cell 4 (u := .bool ng) rfl; have x5 := d.bk.cell 5 (u := .string n) rfl; have x6 := d.bk.cell 6 (u := .slice sa sl sc) rfl; have x7 := d.bk.cell 7 (u := .slice ao nk cap) rfl; clear d)
    | (go_at_call 48; refine (HQ.out _ HS1.out).mono ?_; rintro e w2 ⟨rfl, d⟩; have HS2 : Hid (Sn w0 W base g W.heap.size #[.int .i64 1, .int .i64 m, .int .i64 a, .int .i64 b, .bool ng, .string n, .slice sa sl sc, .slice ao nk cap] s w2) := d; clear d)
    | (go_at_call 40; refine (HP.out _ HS2.out).mono ?_; rintro e w9 ⟨rfl, d1, d2⟩; have HT1 : Hid (∀ s', _ = some s' → Cx w0 w9 base g s') := d1; have HT2 : Hid (Kt base W w9) := d2; clear d1 d2))
  go_ret
  exact ⟨ret_bool (by first | rfl | simp), HT1.out, HT2.out⟩
set_option maxRecDepth 10000 in
set_option maxHeartbeats 2000000 in
theorem member_5 {w0 W : World} {base g : Nat} {s : Wr} (c : Cx w0 W base g s) (m a b : Int) (ng : Bool) (n : ByteArray) (sa : Option Addr) (sl sc : Nat) (ao : Option Addr) (nk cap : Nat) (st : List R) (ks : List Nd) (hsl : st.length = sl) (hnk : ks.length = nk) (ho : othersZ (.mk 5 m a b ng n st ks) = true) (hn : n.size ≤ 140737488355327) : Met 103 #[.pointer (some ⟨g, 0, none⟩), .agg #[.int .i64 5, .int .i64 m, .int .i64 a, .int .i64 b, .bool ng, .string n, .slice sa sl sc, .slice ao nk cap]] w0 W base g (propO s n ng) := by
  have HS : Hid (Sn w0 W base g W.heap.size #[.int .i64 5, .int .i64 m, .int .i64 a, .int .i64 b, .bool ng, .string n, .slice sa sl sc, .slice ao nk cap] s (W.alloc (.cells #[.int .i64 5, .int .i64 m, .int .i64 a, .int .i64 b, .bool ng, .string n, .slice sa sl sc, .slice ao nk cap] 25))) := Sn.start c _
  have HO : Hid (∀ W', Sn w0 W base g W.heap.size #[.int .i64 5, .int .i64 m, .int .i64 a, .int .i64 b, .bool ng, .string n, .slice sa sl sc, .slice ao nk cap] s W' → Calls Tryz.prog 38 #[.agg #[.int .i64 5, .int .i64 m, .int .i64 a, .int .i64 b, .bool ng, .string n, .slice sa sl sc, .slice ao nk cap]] W' fun e w' => e = .returned (.bool true) ∧ Sn w0 W base g W.heap.size #[.int .i64 5, .int .i64 m, .int .i64 a, .int .i64 b, .bool ng, .string n, .slice sa sl sc, .slice ao nk cap] s w') := fun W' S => oz_sn S (5) (m) (a) (b) (ng) (n) st ks sa sl sc ao nk cap hsl hnk _ ho
  have HP : Hid (∀ W', Sn w0 W base g W.heap.size #[.int .i64 5, .int .i64 m, .int .i64 a, .int .i64 b, .bool ng, .string n, .slice sa sl sc, .slice ao nk cap] s W' → Calls Tryz.prog 50 #[.pointer (some ⟨g, 0, none⟩), .agg #[.int .i64 5, .int .i64 m, .int .i64 a, .int .i64 b, .bool ng, .string n, .slice sa sl sc, .slice ao nk cap]] W' fun e w' => e = .returned (.bool (propO s n ng).isSome) ∧ (∀ s', propO s n ng = some s' → Cx w0 w' base g s') ∧ Kt base W w') := fun W' S => Met.sn (property_w S.cx 5 m a b ng n sa sl sc ao nk cap hn) S
  unfold Met
  generalize propO s n ng = P at *
  clear c
  go_enter Tryz.func103, Tryz.ntmps103
  go_wp2_with (first
    | (go_at_call 38; refine (HO.out _ HS.out).mono ?_; rintro e w1 ⟨rfl, d⟩; have HS1 : Hid (Sn w0 W base g W.heap.size #[.int .i64 5, .int .i64 m, .int .i64 a, .int .i64 b, .bool ng, .string n, .slice sa sl sc, .slice ao nk cap] s w1) := d; have x0 := d.bk.cell 0 (u := .int .i64 5) rfl; have x1 := d.bk.cell 1 (u := .int .i64 m) rfl; have x2 := d.bk.cell 2 (u := .int .i64 a) rfl; have x3 := d.bk.cell 3 (u := .int .i64 b) rfl; have x4 := d.bk.cell 4 (u := .bool ng) rfl; have x5 := d.bk.cell 5 (u := .string n) rfl; have x6 := d.bk.cell 6 (u := .slice sa sl sc) rfl; have x7 := d.bk.cell 7 (u := .slice ao nk cap) rfl; clear d)
    | (go_at_call 50; refine (HP.out _ HS1.out).mono ?_; rintro e w9 ⟨rfl, d1, d2⟩; have HT1 : Hid (∀ s', _ = some s' → Cx w0 w9 base g s') := d1; have HT2 : Hid (Kt base W w9) := d2; clear d1 d2))
  go_ret
  exact ⟨ret_bool (by first | rfl | simp), HT1.out, HT2.out⟩
set_option maxRecDepth 10000 in
set_option maxHeartbeats 2000000 in
theorem member_3 {w0 W : World} {base g : Nat} {s : Wr} (c : Cx w0 W base g s) (m a b : Int) (ng : Bool) (n : ByteArray) (sa : Option Addr) (sl sc : Nat) (ao : Option Addr) (nk cap : Nat) (st : List R) (ks : List Nd) (hsl : st.length = sl) (hnk : ks.length = nk) (ho : othersZ (.mk 3 m a b ng n st ks) = true) (Pc : Option Wr) (HC : ∀ W', Cx w0 W' base g s → Met 49 #[.pointer (some ⟨g, 0, none⟩), .agg #[.int .i64 3, .int .i64 m, .int .i64 a, .int .i64 b, .bool ng, .string n, .slice sa sl sc, .slice ao nk cap]] w0 W' base g (Pc)) : Met 103 #[.pointer (some ⟨g, 0, none⟩), .agg #[.int .i64 3, .int .i64 m, .int .i64 a, .int .i64 b, .bool ng, .string n, .slice sa sl sc, .slice ao nk cap]] w0 W base g (Pc) := by
  have HS : Hid (Sn w0 W base g W.heap.size #[.int .i64 3, .int .i64 m, .int .i64 a, .int .i64 b, .bool ng, .string n, .slice sa sl sc, .slice ao nk cap] s (W.alloc (.cells #[.int .i64 3, .int .i64 m, .int .i64 a, .int .i64 b, .bool ng, .string n, .slice sa sl sc, .slice ao nk cap] 25))) := Sn.start c _
  have HO : Hid (∀ W', Sn w0 W base g W.heap.size #[.int .i64 3, .int .i64 m, .int .i64 a, .int .i64 b, .bool ng, .string n, .slice sa sl sc, .slice ao nk cap] s W' → Calls Tryz.prog 38 #[.agg #[.int .i64 3, .int .i64 m, .int .i64 a, .int .i64 b, .bool ng, .string n, .slice sa sl sc, .slice ao nk cap]] W' fun e w' => e = .returned (.bool true) ∧ Sn w0 W base g W.heap.size #[.int .i64 3, .int .i64 m, .int .i64 a, .int .i64 b, .bool ng, .string n, .slice sa sl sc, .slice ao nk cap] s w') := fun W' S => oz_sn S (3) (m) (a) (b) (ng) (n) st ks sa sl sc ao nk cap hsl hnk _ ho
  have HP : Hid (∀ W', Sn w0 W base g W.heap.size #[.int .i64 3, .int .i64 m, .int .i64 a, .int .i64 b, .bool ng, .string n, .slice sa sl sc, .slice ao nk cap] s W' → Calls Tryz.prog 49 #[.pointer (some ⟨g, 0, none⟩), .agg #[.int .i64 3, .int .i64 m, .int .i64 a, .int .i64 b, .bool ng, .string n, .slice sa sl sc, .slice ao nk cap]] W' fun e w' => e = .returned (.bool (Pc).isSome) ∧ (∀ s', Pc = some s' → Cx w0 w' base g s') ∧ Kt base W w') := fun W' S => Met.sn (HC W' S.cx) S
  unfold Met
  generalize Pc = P at *
  clear c
  go_enter Tryz.func103, Tryz.ntmps103
  go_wp2_with (first
    | (go_at_call 38; refine (HO.out _ HS.out).mono ?_; rintro e w1 ⟨rfl, d⟩; have HS1 : Hid (Sn w0 W base g W.heap.size #[.int .i64 3, .int .i64 m, .int .i64 a, .int .i64 b, .bool ng, .string n, .slice sa sl sc, .slice ao nk cap] s w1) := d; have x0 := d.bk.cell 0 (u := .int .i64 3) rfl; have x1 := d.bk.cell 1 (u := .int .i64 m) rfl; have x2 := d.bk.cell 2 (u := .int .i64 a) rfl; have x3 := d.bk.cell 3 (u := .int .i64 b) rfl; have x4 := d.bk.cell 4 (u := .bool ng) rfl; have x5 := d.bk.cell 5 (u := .string n) rfl; have x6 := d.bk.cell 6 (u := .slice sa sl sc) rfl; have x7 := d.bk.cell 7 (u := .slice ao nk cap) rfl; clear d)
    | (go_at_call 49; refine (HP.out _ HS1.out).mono ?_; rintro e w9 ⟨rfl, d1, d2⟩; have HT1 : Hid (∀ s', _ = some s' → Cx w0 w9 base g s') := d1; have HT2 : Hid (Kt base W w9) := d2; clear d1 d2))
  go_ret
  exact ⟨ret_bool (by first | rfl | simp), HT1.out, HT2.out⟩
set_option maxRecDepth 10000 in
set_option maxHeartbeats 2000000 in
theorem member_4 {w0 W : World} {base g : Nat} {s : Wr} (c : Cx w0 W base g s) (m a b : Int) (ng : Bool) (n : ByteArray) (sa : Option Addr) (sl sc : Nat) (ao : Option Addr) (nk cap : Nat) (st : List R) (ks : List Nd) (hsl : st.length = sl) (hnk : ks.length = nk) (ho : othersZ (.mk 4 m a b ng n st ks) = true) (hA : (TX (printL a true)).size ≤ 9223372036854775807) (hB : (TX (printL b true)).size ≤ 9223372036854775807) : Met 103 #[.pointer (some ⟨g, 0, none⟩), .agg #[.int .i64 4, .int .i64 m, .int .i64 a, .int .i64 b, .bool ng, .string n, .slice sa sl sc, .slice ao nk cap]] w0 W base g (rangeO s a b) := by
  have HS : Hid (Sn w0 W base g W.heap.size #[.int .i64 4, .int .i64 m, .int .i64 a, .int .i64 b, .bool ng, .string n, .slice sa sl sc, .slice ao nk cap] s (W.alloc (.cells #[.int .i64 4, .int .i64 m, .int .i64 a, .int .i64 b, .bool ng, .string n, .slice sa sl sc, .slice ao nk cap] 25))) := Sn.start c _
  have HO : Hid (∀ W', Sn w0 W base g W.heap.size #[.int .i64 4, .int .i64 m, .int .i64 a, .int .i64 b, .bool ng, .string n, .slice sa sl sc, .slice ao nk cap] s W' → Calls Tryz.prog 38 #[.agg #[.int .i64 4, .int .i64 m, .int .i64 a, .int .i64 b, .bool ng, .string n, .slice sa sl sc, .slice ao nk cap]] W' fun e w' => e = .returned (.bool true) ∧ Sn w0 W base g W.heap.size #[.int .i64 4, .int .i64 m, .int .i64 a, .int .i64 b, .bool ng, .string n, .slice sa sl sc, .slice ao nk cap] s w') := fun W' S => oz_sn S (4) (m) (a) (b) (ng) (n) st ks sa sl sc ao nk cap hsl hnk _ ho
  unfold Met rangeO
  by_cases hab : a ≤ b
  · rw [if_pos hab]
    have fab : decide (a ≤ b) = true := decide_eq_true hab
    have HQ : Hid (∀ W', Sn w0 W base g W.heap.size #[.int .i64 4, .int .i64 m, .int .i64 a, .int .i64 b, .bool ng, .string n, .slice sa sl sc, .slice ao nk cap] s W' → Calls Tryz.prog 48 #[.int .i64 a, .bool true] W' fun e w' => e = .returned (.string (TX (printL a true))) ∧ Sn w0 W base g W.heap.size #[.int .i64 4, .int .i64 m, .int .i64 a, .int .i64 b, .bool ng, .string n, .slice sa sl sc, .slice ao nk cap] s w') := fun W' S => quiet_of S (tok.print_any a true W' S.cx.c.penv)
    cases h1 : putO s (TX (printL a true)) with
    | none =>
      have HP : Hid (∀ W', Sn w0 W base g W.heap.size #[.int .i64 4, .int .i64 m, .int .i64 a, .int .i64 b, .bool ng, .string n, .slice sa sl sc, .slice ao nk cap] s W' → Calls Tryz.prog 40 #[.pointer (some ⟨g, 0, none⟩), .string (TX (printL a true))] W' fun e w' => e = .returned (.bool false) ∧ Kt base W w') := fun W' S => Met.sn_no (put_met S.cx _ hA) h1 S
      clear c h1 hab
      generalize TX (printL a true) = T at *
      go_enter Tryz.func103, Tryz.ntmps103
      go_wp2_with (first
        | (go_at_call 38; refine (HO.out _ HS.out).mono ?_; rintro e w1 ⟨rfl, d⟩; have HS1 : Hid (Sn w0 W base g W.heap.size #[.int .i64 4, .int .i64 m, .int .i64 a, .int .i64 b, .bool ng, .string n, .slice sa sl sc, .slice ao nk cap] s w1) := d; have x0 := d.bk.cell 0 (u := .int .i64 4) rfl; have x1 := d.bk.cell 1 (u := .int .i64 m) rfl; have x2 := d.bk.cell 2 (u := .int .i64 a) rfl; have x3 := d.bk.cell 3 (u := .int .i64 b) rfl; have x4 := d.bk.cell 4 (u := .bool ng) rfl; have x5 := d.bk.cell 5 (u := .string n) rfl; have x6 := d.bk.cell 6 (u := .slice sa sl sc) rfl; have x7 := d.bk.cell 7 (u := .slice ao nk cap) rfl; clear d)
        | (go_at_call_of 48 (Value.int IntKind.i64 a); refine (HQ.out _ HS1.out).mono ?_; rintro e w2 ⟨rfl, d⟩; have HS2 : Hid (Sn w0 W base g W.heap.size #[.int .i64 4, .int .i64 m, .int .i64 a, .int .i64 b, .bool ng, .string n, .slice sa sl sc, .slice ao nk cap] s w2) := d; have x0 := d.bk.cell 0 (u := .int .i64 4) rfl; have x1 := d.bk.cell 1 (u := .int .i64 m) rfl; have x2 := d.bk.cell 2 (u := .int .i64 a) rfl; have x3 := d.bk.cell 3 (u := .int .i64 b) rfl; have x4 := d.bk.cell 4 (u := .bool ng) rfl; have x5 := d.bk.cell 5 (u := .string n) rfl; have x6 := d.bk.cell 6 (u := .slice sa sl sc) rfl; have x7 := d.bk.cell 7 (u := .slice ao nk cap) rfl; clear d)
        | (go_at_call 40; refine (HP.out _ HS2.out).mono ?_; rintro e w3 ⟨rfl, d⟩; have HZ : Hid (Kt base W w3) := d; clear d))
      go_ret
      exact met_no (rfl) HZ.out
    | some s1 =>
      simp only [Option.bind_some]
      have HP : Hid (∀ W', Sn w0 W base g W.heap.size #[.int .i64 4, .int .i64 m, .int .i64 a, .int .i64 b, .bool ng, .string n, .slice sa sl sc, .slice ao nk cap] s W' → Calls Tryz.prog 40 #[.pointer (some ⟨g, 0, none⟩), .string (TX (printL a true))] W' fun e w' => e = .returned (.bool true) ∧ Sn w0 W base g W.heap.size #[.int .i64 4, .int .i64 m, .int .i64 a, .int .i64 b, .bool ng, .string n, .slice sa sl sc, .slice ao nk cap] s1 w') := fun W' S => Met.sn_ok (put_met S.cx _ hA) h1 S
      cases h2 : putO s1 ⟨#[45]⟩ with
      | none =>
        have HP2 : Hid (∀ W', Sn w0 W base g W.heap.size #[.int .i64 4, .int .i64 m, .int .i64 a, .int .i64 b, .bool ng, .string n, .slice sa sl sc, .slice ao nk cap] s1 W' → Calls Tryz.prog 40 #[.pointer (some ⟨g, 0, none⟩), .string ⟨#[45]⟩] W' fun e w' => e = .returned (.bool false) ∧ Kt base W w') := fun W' S => Met.sn_no (put_met S.cx _ (by decide)) h2 S
        clear c h1 h2 hab
        generalize TX (printL a true) = T at *
        go_enter Tryz.func103, Tryz.ntmps103
        go_wp2_with (first
          | (go_at_call 38; refine (HO.out _ HS.out).mono ?_; rintro e w1 ⟨rfl, d⟩; have HS1 : Hid (Sn w0 W base g W.heap.size #[.int .i64 4, .int .i64 m, .int .i64 a, .int .i64 b, .bool ng, .string n, .slice sa sl sc, .slice ao nk cap] s w1) := d; have x0 := d.bk.cell 0 (u := .int .i64 4) rfl; have x1 := d.bk.cell 1 (u := .int .i64 m) rfl; have x2 := d.bk.cell 2 (u := .int .i64 a) rfl; have x3 := d.bk.cell 3 (u := .int .i64 b) rfl; have x4 := d.bk.cell 4 (u := .bool ng) rfl; have x5 := d.bk.cell 5 (u := .string n) rfl; have x6 := d.bk.cell 6 (u := .slice sa sl sc) rfl; have x7 := d.bk.cell 7 (u := .slice ao nk cap) rfl; clear d)
          | (go_at_call_of 48 (Value.int IntKind.i64 a); refine (HQ.out _ HS1.out).mono ?_; rintro e w2 ⟨rfl, d⟩; have HS2 : Hid (Sn w0 W base g W.heap.size #[.int .i64 4, .int .i64 m, .int .i64 a, .int .i64 b, .bool ng, .string n, .slice sa sl sc, .slice ao nk cap] s w2) := d; have x0 := d.bk.cell 0 (u := .int .i64 4) rfl; have x1 := d.bk.cell 1 (u := .int .i64 m) rfl; have x2 := d.bk.cell 2 (u := .int .i64 a) rfl; have x3 := d.bk.cell 3 (u := .int .i64 b) rfl; have x4 := d.bk.cell 4 (u := .bool ng) rfl; have x5 := d.bk.cell 5 (u := .string n) rfl; have x6 := d.bk.cell 6 (u := .slice sa sl sc) rfl; have x7 := d.bk.cell 7 (u := .slice ao nk cap) rfl; clear d)
          | (go_at_call_of 40 (Value.string T); refine (HP.out _ HS2.out).mono ?_; rintro e w3 ⟨rfl, d⟩; have HS3 : Hid (Sn w0 W base g W.heap.size #[.int .i64 4, .int .i64 m, .int .i64 a, .int .i64 b, .bool ng, .string n, .slice sa sl sc, .slice ao nk cap] s1 w3) := d; have x0 := d.bk.cell 0 (u := .int .i64 4) rfl; have x1 := d.bk.cell 1 (u := .int .i64 m) rfl; have x2 := d.bk.cell 2 (u := .int .i64 a) rfl; have x3 := d.bk.cell 3 (u := .int .i64 b) rfl; have x4 := d.bk.cell 4 (u := .bool ng) rfl; have x5 := d.bk.cell 5 (u := .string n) rfl; have x6 := d.bk.cell 6 (u := .slice sa sl sc) rfl; have x7 := d.bk.cell 7 (u := .slice ao nk cap) rfl; clear d)
          | (go_at_call 40; refine (HP2.out _ HS3.out).mono ?_; rintro e w4 ⟨rfl, d⟩; have HZ : Hid (Kt base W w4) := d; clear d))
        go_ret
        exact met_no (rfl) HZ.out
      | some s2 =>
        simp only [Option.bind_some]
        have HP2 : Hid (∀ W', Sn w0 W base g W.heap.size #[.int .i64 4, .int .i64 m, .int .i64 a, .int .i64 b, .bool ng, .string n, .slice sa sl sc, .slice ao nk cap] s1 W' → Calls Tryz.prog 40 #[.pointer (some ⟨g, 0, none⟩), .string ⟨#[45]⟩] W' fun e w' => e = .returned (.bool true) ∧ Sn w0 W base g W.heap.size #[.int .i64 4, .int .i64 m, .int .i64 a, .int .i64 b, .bool ng, .string n, .slice sa sl sc, .slice ao nk cap] s2 w') := fun W' S => Met.sn_ok (put_met S.cx _ (by decide)) h2 S
        have HQ2 : Hid (∀ W', Sn w0 W base g W.heap.size #[.int .i64 4, .int .i64 m, .int .i64 a, .int .i64 b, .bool ng, .string n, .slice sa sl sc, .slice ao nk cap] s2 W' → Calls Tryz.prog 48 #[.int .i64 b, .bool true] W' fun e w' => e = .returned (.string (TX (printL b true))) ∧ Sn w0 W base g W.heap.size #[.int .i64 4, .int .i64 m, .int .i64 a, .int .i64 b, .bool ng, .string n, .slice sa sl sc, .slice ao nk cap] s2 w') := fun W' S => quiet_of S (tok.print_any b true W' S.cx.c.penv)
        have HP3 : Hid (∀ W', Sn w0 W base g W.heap.size #[.int .i64 4, .int .i64 m, .int .i64 a, .int .i64 b, .bool ng, .string n, .slice sa sl sc, .slice ao nk cap] s2 W' → Calls Tryz.prog 40 #[.pointer (some ⟨g, 0, none⟩), .string (TX (printL b true))] W' fun e w' => e = .returned (.bool (putO s2 (TX (printL b true))).isSome) ∧ (∀ s', putO s2 (TX (printL b true)) = some s' → Cx w0 w' base g s') ∧ Kt base W w') := fun W' S => Met.sn (put_met S.cx _ hB) S
        generalize putO s2 (TX (printL b true)) = P at *
        clear c h1 h2 hab
        generalize TX (printL a true) = T at *
        generalize TX (printL b true) = T2 at *
        go_enter Tryz.func103, Tryz.ntmps103
        go_wp2_with (first
          | (go_at_call 38; refine (HO.out _ HS.out).mono ?_; rintro e w1 ⟨rfl, d⟩; have HS1 : Hid (Sn w0 W base g W.heap.size #[.int .i64 4, .int .i64 m, .int .i64 a, .int .i64 b, .bool ng, .string n, .slice sa sl sc, .slice ao nk cap] s w1) := d; have x0 := d.bk.cell 0 (u := .int .i64 4) rfl; have x1 := d.bk.cell 1 (u := .int .i64 m) rfl; have x2 := d.bk.cell 2 (u := .int .i64 a) rfl; have x3 := d.bk.cell 3 (u := .int .i64 b) rfl; have x4 := d.bk.cell 4 (u := .bool ng) rfl; have x5 := d.bk.cell 5 (u := .string n) rfl; have x6 := d.bk.cell 6 (u := .slice sa sl sc) rfl; have x7 := d.bk.cell 7 (u := .slice ao nk cap) rfl; clear d)
          | (go_at_call_of 48 (Value.int IntKind.i64 a); refine (HQ.out _ HS1.out).mono ?_; rintro e w2 ⟨rfl, d⟩; have HS2 : Hid (Sn w0 W base g W.heap.size #[.int .i64 4, .int .i64 m, .int .i64 a, .int .i64 b, .bool ng, .string n, .slice sa sl sc, .slice ao nk cap] s w2) := d; have x0 := d.bk.cell 0 (u := .int .i64 4) rfl; have x1 := d.bk.cell 1 (u := .int .i64 m) rfl; have x2 := d.bk.cell 2 (u := .int .i64 a) rfl; have x3 := d.bk.cell 3 (u := .int .i64 b) rfl; have x4 := d.bk.cell 4 (u := .bool ng) rfl; have x5 := d.bk.cell 5 (u := .string n) rfl; have x6 := d.bk.cell 6 (u := .slice sa sl sc) rfl; have x7 := d.bk.cell 7 (u := .slice ao nk cap) rfl; clear d)
          | (go_at_call_of 40 (Value.string T); refine (HP.out _ HS2.out).mono ?_; rintro e w3 ⟨rfl, d⟩; have HS3 : Hid (Sn w0 W base g W.heap.size #[.int .i64 4, .int .i64 m, .int .i64 a, .int .i64 b, .bool ng, .string n, .slice sa sl sc, .slice ao nk cap] s1 w3) := d; have x0 := d.bk.cell 0 (u := .int .i64 4) rfl; have x1 := d.bk.cell 1 (u := .int .i64 m) rfl; have x2 := d.bk.cell 2 (u := .int .i64 a) rfl; have x3 := d.bk.cell 3 (u := .int .i64 b) rfl; have x4 := d.bk.cell 4 (u := .bool ng) rfl; have x5 := d.bk.cell 5 (u := .string n) rfl; have x6 := d.bk.cell 6 (u := .slice sa sl sc) rfl; have x7 := d.bk.cell 7 (u := .slice ao nk cap) rfl; clear d)
          | (go_at_call 48; refine (HQ2.out _ HS4.out).mono ?_; rintro e w5 ⟨rfl, d⟩; have HS5 : Hid (Sn w0 W base g W.heap.size #[.int .i64 4, .int .i64 m, .int .i64 a, .int .i64 b, .bool ng, .string n, .slice sa sl sc, .slice ao nk cap] s2 w5) := d; clear d)
          | (go_at_call_of 40 (Value.string T2); refine (HP3.out _ HS5.out).mono ?_; rintro e w9 ⟨rfl, d1, d2⟩; have HT1 : Hid (∀ s', _ = some s' → Cx w0 w9 base g s') := d1; have HT2 : Hid (Kt base W w9) := d2; clear d1 d2)
          | (go_at_call 40; refine (HP2.out _ HS3.out).mono ?_; rintro e w4 ⟨rfl, d⟩; have HS4 : Hid (Sn w0 W base g W.heap.size #[.int .i64 4, .int .i64 m, .int .i64 a, .int .i64 b, .bool ng, .string n, .slice sa sl sc, .slice ao nk cap] s2 w4) := d; have x0 := d.bk.cell 0 (u := .int .i64 4) rfl; have x1 := d.bk.cell 1 (u := .int .i64 m) rfl; have x2 := d.bk.cell 2 (u := .int .i64 a) rfl; have x3 := d.bk.cell 3 (u := .int .i64 b) rfl; have x4 := d.bk.cell 4 (u := .bool ng) rfl; have x5 := d.bk.cell 5 (u := .string n) rfl; have x6 := d.bk.cell 6 (u := .slice sa sl sc) rfl; have x7 := d.bk.cell 7 (u := .slice ao nk cap) rfl; clear d))
        go_ret
        exact ⟨ret_bool (by first | rfl | simp), HT1.out, HT2.out⟩
  · rw [if_neg hab]
    have fab : decide (a ≤ b) = false := decide_eq_false hab
    clear c hab
    go_enter Tryz.func103, Tryz.ntmps103
    go_wp2_with (first
      | (go_at_call 38; refine (HO.out _ HS.out).mono ?_; rintro e w1 ⟨rfl, d⟩; have HS1 : Hid (Sn w0 W base g W.heap.size #[.int .i64 4, .int .i64 m, .int .i64 a, .int .i64 b, .bool ng, .string n, .slice sa sl sc, .slice ao nk cap] s w1) := d; have x0 := d.bk.cell 0 (u := .int .i64 4) rfl; have x1 := d.bk.cell 1 (u := .int .i64 m) rfl; have x2 := d.bk.cell 2 (u := .int .i64 a) rfl; have x3 := d.bk.cell 3 (u := .int .i64 b) rfl; have x4 := d.bk.cell 4 (u := .bool ng) rfl; have x5 := d.bk.cell 5 (u := .string n) rfl; have x6 := d.bk.cell 6 (u := .slice sa sl sc) rfl; have x7 := d.bk.cell 7 (u := .slice ao nk cap) rfl; clear d))
    go_ret
    exact met_no (rfl) HS1.out.kt
end Go.Proofs.YtbdediacfckpcaaGreatDoor.tre
end

section
/- members and sequence of tree's writer. -/
set_option linter.unusedVariables false
set_option linter.unusedSimpArgs false
namespace Go.Proofs.YtbdediacfckpcaaGreatDoor.tre
open Go.RowKit nod
open Go.Proofs.YtbdediacfckpcaaGreatDoor.rng (R RV ret_int ret_bool below_drewN info_parts own_below')
open Go.Proofs.YtbdediacfckpcaaGreatDoor.tok (PEnv TX printL)

set_option maxRecDepth 10000 in
set_option maxHeartbeats 2000000 in
theorem members_w {w0 W : World} {base g : Nat} {s : Wr} (c : Cx w0 W base g s) (ao : Option Addr) (nk cap : Nat) (ks : List Nd) (HL : Hid (ks.length = nk)) (hcap : nk ≤ cap) (hbig : cap ≤ 9223372036854775807) (HKV : Hid (KV base w0 ao ks)) (fm : Wr → Nd → Option Wr) (HF : Hid (∀ t ∈ ks, ∀ W' s' v, Cx w0 W' base g s' → NV base w0 t v → Met 103 #[.pointer (some ⟨g, 0, none⟩), v] w0 W' base g (fm s' t))) : Met 85 #[.pointer (some ⟨g, 0, none⟩), .slice ao nk cap] w0 W base g (if nk = 0 then none else loopO fm ks s) := by
  have HST : Hid (Cx w0 W base g s ∧ Kt base W W) := ⟨c, Kt.refl _ _⟩
  have hgs := c.c.wr.lt
  unfold Met
  obtain ⟨P, hP⟩ : ∃ P, (if nk = 0 then none else loopO fm ks s) = P := ⟨_, rfl⟩
  rw [hP]
  have HNO : Hid (0 < nk → loopO fm ks s = none → P = none) := fun h e => by rw [← hP, if_neg (by omega), e]
  have HOK : Hid (∀ s', 0 < nk → loopO fm ks s = some s' → P = some s') := fun s' h e => by rw [← hP, if_neg (by omega), e]
  have HZE : Hid (nk = 0 → P = none) := fun h => by rw [← hP, if_pos h]
  clear c hP
  go_enter Tryz.func85, Tryz.ntmps85
  go_wp2
  go_loopw [9] (fun i wr => ∃ (j : Nat) (sj : Wr), j ≤ nk ∧ i = .int .i64 j ∧ Hid (loopO fm ks s = loopO fm (ks.drop j) sj) ∧ Hid (Cx w0 wr base g sj) ∧ Hid (Kt base W wr)) (fun i _ => nk - (intOf i).toNat)
  case atStart => exact ⟨0, s, by omega, rfl, rfl, HST.out.1, HST.out.2⟩
  case round =>
    obtain ⟨j, sj, hj, rfl, HJ, HCX, HKT⟩ := hrel
    clear HST
    by_cases hlt : j < nk
    · obtain ⟨t, ht⟩ := getX HL.out hlt
      obtain ⟨bb, off, rfl, hka⟩ := HKV.out.some (by have := HL.out; omega)
      obtain ⟨k', m', a', b', g', n', s', kk, sa', sc', ao', cap', rfl, ⟨e0, e1, e2, e3, e4, e5, e6, e7⟩, hv'⟩ := hka.kid ht
      have hbb := hka.1
      have bl := HCX.out.c.bel
      have d0 := (bl.cell (p := ⟨bb, off + j * 8, none⟩) hbb).trans e0
      have d1 := (bl.cell (p := ⟨bb, off + j * 8 + 1, none⟩) hbb).trans e1
      have d2 := (bl.cell (p := ⟨bb, off + j * 8 + 2, none⟩) hbb).trans e2
      have d3 := (bl.cell (p := ⟨bb, off + j * 8 + 3, none⟩) hbb).trans e3
      have d4 := (bl.cell (p := ⟨bb, off + j * 8 + 4, none⟩) hbb).trans e4
      have d5 := (bl.cell (p := ⟨bb, off + j * 8 + 5, none⟩) hbb).trans e5
      have d6 := (bl.cell (p := ⟨bb, off + j * 8 + 6, none⟩) hbb).trans e6
      have d7 := (bl.cell (p := ⟨bb, off + j * 8 + 7, none⟩) hbb).trans e7
      clear e0 e1 e2 e3 e4 e5 e6 e7
      have hmem := List.mem_of_getElem? ht
      generalize s'.length = sl' at *
      generalize kk.length = nk' at *
      obtain ⟨T, hTT⟩ : ∃ T, Nd.mk k' m' a' b' g' n' s' kk = T := ⟨_, rfl⟩
      rw [hTT] at ht hmem hv'
      clear hTT
      have HW1 : Hid (Cx w0 (wr.alloc (.cells #[.int .i64 k', .int .i64 m', .int .i64 a', .int .i64 b', .bool g', .string n', .slice sa' sl' sc', .slice ao' nk' cap'] 25)) base g sj) := HCX.out.on ((Below.refl _ wr).alloc (Nat.le_refl _) _)
      have HK1 : Hid (Kt base W (wr.alloc (.cells #[.int .i64 k', .int .i64 m', .int .i64 a', .int .i64 b', .bool g', .string n', .slice sa' sl' sc', .slice ao' nk' cap'] 25))) := HKT.out.trans (HCX.out.kt ((Below.refl _ wr).alloc (Nat.le_refl _) _))
      have hsz := HCX.out.c.size
      have CM := HF.out T hmem _ sj _ HW1.out hv'
      have HDR : Hid (loopO fm ks s = (fm sj T).bind (loopO fm (ks.drop (j + 1)))) := by unfold Hid; rw [HJ.out, dropX ht, loopO]
      cases hP : fm sj T with
      | none =>
        have C := CM.no hP
        have HE : Hid (loopO fm ks s = none) := by unfold Hid; rw [HDR.out, hP]; rfl
        clear HJ HCX HKT HKV HF hka hv' hmem ht bl CM HDR hP HW1
        go_wp2_with (go_at_call 103; refine C.mono ?_; rintro e w2 ⟨rfl, d⟩; have HZ : Hid (Kt base W w2) := HK1.out.trans d; clear d)
        go_ret
        exact met_no (HNO.out (by omega) HE.out) HZ.out
      | some s2 =>
        have C := CM.ok hP
        have HE : Hid (loopO fm ks s = loopO fm (ks.drop (j + 1)) s2) := by unfold Hid; rw [HDR.out, hP]; rfl
        clear HJ HCX HKT HKV HF hka hv' hmem ht bl CM HDR hP HW1
        go_wp2_with (go_at_call 103; refine C.mono ?_; rintro e w2 ⟨rfl, d, d'⟩; have HC2 : Hid (Cx w0 w2 base g s2) := d; have HZ : Hid (Kt base W w2) := HK1.out.trans d'; clear d d')
        go_roundw
        case rel => exact ⟨j + 1, s2, by omega, by go_num, HE, HC2, HZ⟩
        case measure => simp [intOf]; omega
    · have HE : Hid (loopO fm ks s = some sj) := by unfold Hid; rw [HJ.out, List.drop_of_length_le (by have := HL.out; omega), loopO]
      clear HJ HKV HF
      by_cases z : nk = 0
      · subst z
        go_wp2
        go_ret
        exact met_no (HZE.out (by trivial)) HKT.out
      · have z1 : decide (0 < (nk : Int)) = true := decide_eq_true (by omega)
        have z2 : decide (0 < nk) = true := decide_eq_true (by omega)
        go_wp2
        go_ret
        exact met_ok (HOK.out sj (by omega) HE.out) HCX.out HKT.out
set_option maxRecDepth 10000 in
set_option maxHeartbeats 2000000 in
theorem sequence_kind {w0 W : World} {base g : Nat} {s : Wr} (c : Cx w0 W base g s) (k m a b : Int) (ng : Bool) (n : ByteArray) (sa : Option Addr) (sl sc : Nat) (ao : Option Addr) (nk cap : Nat) (hk : ¬ k = 6) : Met 32 #[.pointer (some ⟨g, 0, none⟩), .agg #[.int .i64 k, .int .i64 m, .int .i64 a, .int .i64 b, .bool ng, .string n, .slice sa sl sc, .slice ao nk cap]] w0 W base g (none) := by
  have HS : Hid (Sn w0 W base g W.heap.size #[.int .i64 k, .int .i64 m, .int .i64 a, .int .i64 b, .bool ng, .string n, .slice sa sl sc, .slice ao nk cap] s (W.alloc (.cells #[.int .i64 k, .int .i64 m, .int .i64 a, .int .i64 b, .bool ng, .string n, .slice sa sl sc, .slice ao nk cap] 25))) := Sn.start c _
  unfold Met
  clear c
  go_enter Tryz.func32, Tryz.ntmps32
  go_wp2
  go_ret
  exact met_no (rfl) HS.out.kt
set_option maxRecDepth 10000 in
set_option maxHeartbeats 2000000 in
theorem sequence_no {w0 W : World} {base g : Nat} {s : Wr} (c : Cx w0 W base g s) (m a b : Int) (ng : Bool) (n : ByteArray) (sa : Option Addr) (sl sc : Nat) (ao : Option Addr) (nk cap : Nat) (st : List R) (ks : List Nd) (hsl : st.length = sl) (hnk : ks.length = nk) (ho : othersZ (.mk 6 m a b ng n st ks) = false) : Met 32 #[.pointer (some ⟨g, 0, none⟩), .agg #[.int .i64 6, .int .i64 m, .int .i64 a, .int .i64 b, .bool ng, .string n, .slice sa sl sc, .slice ao nk cap]] w0 W base g (none) := by
  have HS : Hid (Sn w0 W base g W.heap.size #[.int .i64 6, .int .i64 m, .int .i64 a, .int .i64 b, .bool ng, .string n, .slice sa sl sc, .slice ao nk cap] s (W.alloc (.cells #[.int .i64 6, .int .i64 m, .int .i64 a, .int .i64 b, .bool ng, .string n, .slice sa sl sc, .slice ao nk cap] 25))) := Sn.start c _
  have HO : Hid (∀ W', Sn w0 W base g W.heap.size #[.int .i64 6, .int .i64 m, .int .i64 a, .int .i64 b, .bool ng, .string n, .slice sa sl sc, .slice ao nk cap] s W' → Calls Tryz.prog 38 #[.agg #[.int .i64 6, .int .i64 m, .int .i64 a, .int .i64 b, .bool ng, .string n, .slice sa sl sc, .slice ao nk cap]] W' fun e w' => e = .returned (.bool false) ∧ Sn w0 W base g W.heap.size #[.int .i64 6, .int .i64 m, .int .i64 a, .int .i64 b, .bool ng, .string n, .slice sa sl sc, .slice ao nk cap] s w') := fun W' S => oz_sn S (6) (m) (a) (b) (ng) (n) st ks sa sl sc ao nk cap hsl hnk _ ho
  unfold Met
  clear c
  go_enter Tryz.func32, Tryz.ntmps32
  go_wp2_with (first
    | (go_at_call 38; refine (HO.out _ HS.out).mono ?_; rintro e w1 ⟨rfl, d⟩; have HS1 : Hid (Sn w0 W base g W.heap.size #[.int .i64 6, .int .i64 m, .int .i64 a, .int .i64 b, .bool ng, .string n, .slice sa sl sc, .slice ao nk cap] s w1) := d; clear d))
  go_ret
  exact met_no (rfl) HS1.out.kt
set_option maxRecDepth 10000 in
set_option maxHeartbeats 2000000 in
theorem sequence_w {w0 W : World} {base g : Nat} {s : Wr} (c : Cx w0 W base g s) (m a b : Int) (ng : Bool) (n : ByteArray) (sa : Option Addr) (sl sc : Nat) (ao : Option Addr) (nk cap : Nat) (st : List R) (ks : List Nd) (hsl : st.length = sl) (HL : Hid (ks.length = nk)) (hcap : nk ≤ cap) (hbig : cap ≤ 9223372036854775807) (HKV : Hid (KV base w0 ao ks)) (ho : othersZ (.mk 6 m a b ng n st ks) = true) (fm : Wr → Nd → Option Wr) (HF : Hid (∀ t ∈ ks, ∀ W' s' v, Cx w0 W' base g s' → NV base w0 t v → Met 39 #[.pointer (some ⟨g, 0, none⟩), v] w0 W' base g (fm s' t))) : Met 32 #[.pointer (some ⟨g, 0, none⟩), .agg #[.int .i64 6, .int .i64 m, .int .i64 a, .int .i64 b, .bool ng, .string n, .slice sa sl sc, .slice ao nk cap]] w0 W base g (loopO fm ks s) := by
  have HS : Hid (Sn w0 W base g W.heap.size #[.int .i64 6, .int .i64 m, .int .i64 a, .int .i64 b, .bool ng, .string n, .slice sa sl sc, .slice ao nk cap] s (W.alloc (.cells #[.int .i64 6, .int .i64 m, .int .i64 a, .int .i64 b, .bool ng, .string n, .slice sa sl sc, .slice ao nk cap] 25))) := Sn.start c _
  have hnk := HL.out
  have HO : Hid (∀ W', Sn w0 W base g W.heap.size #[.int .i64 6, .int .i64 m, .int .i64 a, .int .i64 b, .bool ng, .string n, .slice sa sl sc, .slice ao nk cap] s W' → Calls Tryz.prog 38 #[.agg #[.int .i64 6, .int .i64 m, .int .i64 a, .int .i64 b, .bool ng, .string n, .slice sa sl sc, .slice ao nk cap]] W' fun e w' => e = .returned (.bool true) ∧ Sn w0 W base g W.heap.size #[.int .i64 6, .int .i64 m, .int .i64 a, .int .i64 b, .bool ng, .string n, .slice sa sl sc, .slice ao nk cap] s w') := fun W' S => oz_sn S (6) (m) (a) (b) (ng) (n) st ks sa sl sc ao nk cap hsl hnk _ ho
  unfold Met
  have HNO : Hid (0 < nk → loopO fm ks s = none → loopO fm ks s = none) := fun _ e => e
  clear c hnk
  go_enter Tryz.func32, Tryz.ntmps32
  go_wp2_with (first
    | (go_at_call 38; refine (HO.out _ HS.out).mono ?_; rintro e w1 ⟨rfl, d⟩; have HS1 : Hid (Sn w0 W base g W.heap.size #[.int .i64 6, .int .i64 m, .int .i64 a, .int .i64 b, .bool ng, .string n, .slice sa sl sc, .slice ao nk cap] s w1) := d; have x0 := d.bk.cell 0 (u := .int .i64 6) rfl; have x1 := d.bk.cell 1 (u := .int .i64 m) rfl; have x2 := d.bk.cell 2 (u := .int .i64 a) rfl; have x3 := d.bk.cell 3 (u := .int .i64 b) rfl; have x4 := d.bk.cell 4 (u := .bool ng) rfl; have x5 := d.bk.cell 5 (u := .string n) rfl; have x6 := d.bk.cell 6 (u := .slice sa sl sc) rfl; have x7 := d.bk.cell 7 (u := .slice ao nk cap) rfl; have HST : Hid (Cx w0 w1 base g s ∧ Kt base W w1) := ⟨d.cx, d.kt⟩; clear d))
  go_loopw [18] (fun i wr => ∃ (j : Nat) (sj : Wr), j ≤ nk ∧ i = .int .i64 j ∧ Hid (loopO fm ks s = loopO fm (ks.drop j) sj) ∧ Hid (Cx w0 wr base g sj) ∧ Hid (Kt base W wr)) (fun i _ => nk - (intOf i).toNat)
  case atStart => exact ⟨0, s, by omega, rfl, rfl, HST.out.1, HST.out.2⟩
  case round =>
    obtain ⟨j, sj, hj, rfl, HJ, HCX, HKT⟩ := hrel
    clear HST
    by_cases hlt : j < nk
    · obtain ⟨t, ht⟩ := getX HL.out hlt
      obtain ⟨bb, off, rfl, hka⟩ := HKV.out.some (by have := HL.out; omega)
      obtain ⟨k', m', a', b', g', n', s', kk, sa', sc', ao', cap', rfl, ⟨e0, e1, e2, e3, e4, e5, e6, e7⟩, hv'⟩ := hka.kid ht
      have hbb := hka.1
      have bl := HCX.out.c.bel
      have d0 := (bl.cell (p := ⟨bb, off + j * 8, none⟩) hbb).trans e0
      have d1 := (bl.cell (p := ⟨bb, off + j * 8 + 1, none⟩) hbb).trans e1
      have d2 := (bl.cell (p := ⟨bb, off + j * 8 + 2, none⟩) hbb).trans e2
      have d3 := (bl.cell (p := ⟨bb, off + j * 8 + 3, none⟩) hbb).trans e3
      have d4 := (bl.cell (p := ⟨bb, off + j * 8 + 4, none⟩) hbb).trans e4
      have d5 := (bl.cell (p := ⟨bb, off + j * 8 + 5, none⟩) hbb).trans e5
      have d6 := (bl.cell (p := ⟨bb, off + j * 8 + 6, none⟩) hbb).trans e6
      have d7 := (bl.cell (p := ⟨bb, off + j * 8 + 7, none⟩) hbb).trans e7
      clear e0 e1 e2 e3 e4 e5 e6 e7
      have hmem := List.mem_of_getElem? ht
      generalize s'.length = sl' at *
      generalize kk.length = nk' at *
      obtain ⟨T, hTT⟩ : ∃ T, Nd.mk k' m' a' b' g' n' s' kk = T := ⟨_, rfl⟩
      rw [hTT] at ht hmem hv'
      clear hTT
      have HW1 : Hid (Cx w0 (wr.alloc (.cells #[.int .i64 k', .int .i64 m', .int .i64 a', .int .i64 b', .bool g', .string n', .slice sa' sl' sc', .slice ao' nk' cap'] 25)) base g sj) := HCX.out.on ((Below.refl _ wr).alloc (Nat.le_refl _) _)
      have HK1 : Hid (Kt base W (wr.alloc (.cells #[.int .i64 k', .int .i64 m', .int .i64 a', .int .i64 b', .bool g', .string n', .slice sa' sl' sc', .slice ao' nk' cap'] 25))) := HKT.out.trans (HCX.out.kt ((Below.refl _ wr).alloc (Nat.le_refl _) _))
      have hsz := HCX.out.c.size
      have CM := HF.out T hmem _ sj _ HW1.out hv'
      have HDR : Hid (loopO fm ks s = (fm sj T).bind (loopO fm (ks.drop (j + 1)))) := by unfold Hid; rw [HJ.out, dropX ht, loopO]
      cases hP : fm sj T with
      | none =>
        have C := CM.no hP
        have HE : Hid (loopO fm ks s = none) := by unfold Hid; rw [HDR.out, hP]; rfl
        clear HJ HCX HKT HKV HF hka hv' hmem ht bl CM HDR hP HW1
        go_wp2_with (go_at_call 39; refine C.mono ?_; rintro e w2 ⟨rfl, d⟩; have HZ : Hid (Kt base W w2) := HK1.out.trans d; clear d)
        go_ret
        exact met_no (HNO.out (by omega) HE.out) HZ.out
      | some s2 =>
        have C := CM.ok hP
        have HE : Hid (loopO fm ks s = loopO fm (ks.drop (j + 1)) s2) := by unfold Hid; rw [HDR.out, hP]; rfl
        clear HJ HCX HKT HKV HF hka hv' hmem ht bl CM HDR hP HW1
        go_wp2_with (go_at_call 39; refine C.mono ?_; rintro e w2 ⟨rfl, d, d'⟩; have HC2 : Hid (Cx w0 w2 base g s2) := d; have HZ : Hid (Kt base W w2) := HK1.out.trans d'; clear d d')
        go_roundw
        case rel => exact ⟨j + 1, s2, by omega, by go_num, HE, HC2, HZ⟩
        case measure => simp [intOf]; omega
    · have HE : Hid (loopO fm ks s = some sj) := by unfold Hid; rw [HJ.out, List.drop_of_length_le (by have := HL.out; omega), loopO]
      clear HJ HKV HF
      go_wp2
      go_ret
      exact met_ok HE.out HCX.out HKT.out
end Go.Proofs.YtbdediacfckpcaaGreatDoor.tre
end
