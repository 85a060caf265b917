/- Texts that the proof leans on, one behind the other. -/
import Derived.Test.YtnjomfmdogkhgaaGreatDoorBnd33
import Derived.Test.YtnjomfmdogkhgaaGreatDoorBnd18
import Derived.Test.YtnjomfmdogkhgaaGreatDoorBnd27
import Derived.Test.YtnjomfmdogkhgaaGreatDoorBnd26

section
/- PropsIn: a code point is in the set of its category, and of its script. -/
set_option linter.unusedVariables false
set_option linter.unusedSimpArgs false
namespace Go.Proofs.YtnjomfmdogkhgaaGreatDoor.prp
open Go.RowKit Go.Maps lin
open Go.Proofs.YtnjomfmdogkhgaaGreatDoor.rng (R IsSet Sl code)

theorem gc_names : ∀ c ∈ sV [67, 110] catL, nam.resolveV (BA ([103, 99, 61] ++ c)) = (1, c, 0) ∧ c.length = 2 := by decide +kernel
theorem sc_names : ∀ c ∈ sV [90, 122, 122, 122] scrL, nam.resolveV (BA ([115, 99, 61] ++ c)) = (2, c, 0) ∧ c.length ≤ 10 := by decide +kernel
theorem cat_mem (x : Int) (h : code x = true) : catF x ∈ sV [67, 110] catL := by
  have hc := (rng.code_iff x).1 h
  obtain ⟨i, _, h2⟩ := (tall_inv [67, 110] (catL.map str.trip) (fun x hx => by
    obtain ⟨y, hy, rfl⟩ := List.mem_map.1 hx
    have := str.tfit_spec (cat_tfit y hy)
    exact ⟨this.1, this.2.1, this.2.2.1⟩)).tell x hc.1 hc.2
  exact List.mem_of_getElem? h2
theorem scr_mem (x : Int) (h : code x = true) : scrF x ∈ sV [90, 122, 122, 122] scrL := by
  have hc := (rng.code_iff x).1 h
  obtain ⟨i, _, h2⟩ := (tall_inv [90, 122, 122, 122] (scrL.map str.trip) (fun x hx => by
    obtain ⟨y, hy, rfl⟩ := List.mem_map.1 hx
    have := str.tfit_spec (scr_tfit y hy)
    exact ⟨this.1, this.2.1, this.2.2.1⟩)).tell x hc.1 hc.2
  exact List.mem_of_getElem? h2
theorem rhas_own (v : Value) (l : List R) (x : Int) (B : Nat) (w : World) (h : rng.Own w B v l) (hn : l.length ≤ 1000000) :
    Calls Tryz.prog 30 #[v, .int .i64 x] w fun e w' => e = .returned (.bool (rng.has l x)) ∧ Below w.heap.size w w' := by
  obtain ⟨ao, cap, rfl, hv, _⟩ := rng.Own.view h
  exact rng.rhas_any ao cap l x w (by omega) hv
theorem gc_set (x : Int) (h : code x = true) (r : List R) (hr : IsSet r (setP (nam.resolveV (BA ([103, 99, 61] ++ catF x))))) : rng.has r x = true := by
  obtain ⟨h1, h2⟩ := gc_names _ (cat_mem x h)
  rw [hr.2 x h, h1]
  unfold setP catP
  simp [h2]
theorem sc_set (x : Int) (h : code x = true) (r : List R) (hr : IsSet r (setP (nam.resolveV (BA ([115, 99, 61] ++ scrF x))))) : rng.has r x = true := by
  obtain ⟨h1, h2⟩ := sc_names _ (scr_mem x h)
  rw [hr.2 x h, h1]
  unfold setP
  simp
theorem mod_code (x : Int) : ∃ y : Int, wrap64 ((IntKind.u64.wrap x).tmod 1114112) = y ∧ code y = true := by
  have hu : 0 ≤ IntKind.u64.wrap x := by simp [IntKind.wrap, IntKind.signed, IntKind.bits]; omega
  rw [Int.tmod_eq_emod_of_nonneg hu]
  refine ⟨IntKind.u64.wrap x % 1114112, ?_, by rw [rng.code_iff]; omega⟩
  have h1 : 0 ≤ IntKind.u64.wrap x % 1114112 := by omega
  have h2 : IntKind.u64.wrap x % 1114112 < 1114112 := by omega
  generalize IntKind.u64.wrap x % 1114112 = y at *
  unfold wrap64
  omega
theorem BA_append (a b : List UInt8) : (⟨a.toArray⟩ : ByteArray) ++ BA b = BA (a ++ b) := by
  apply ByteArray.ext
  simp [BA]
set_option maxHeartbeats 4000000 in
set_option maxRecDepth 1000000 in
theorem in_walk (r : Int) (w : World) (E : Env w) : Calls Tryz.prog 5 #[.int .i64 r] w fun e w' => e = .returned (.bool true) ∧ Below w.heap.size w w' := by
  have C := load_any w E
  obtain ⟨X, hX, hcode⟩ := mod_code r
  have HCD : Hid (code X = true) := hcode
  have l1 : (BA ([103, 99, 61] ++ catF X)).size ≤ 140737488355327 := by rw [BA_size, List.length_append, (gc_names _ (cat_mem X hcode)).2]; decide
  have l2 : (BA ([115, 99, 61] ++ scrF X)).size ≤ 140737488355327 := by rw [BA_size, List.length_append]; have := (sc_names _ (scr_mem X hcode)).2; simp; omega
  have e1 : (nam.resolveV (BA ([103, 99, 61] ++ catF X))).2.2 = 0 := by rw [(gc_names _ (cat_mem X hcode)).1]
  have e2 : (nam.resolveV (BA ([115, 99, 61] ++ scrF X))).2.2 = 0 := by rw [(sc_names _ (scr_mem X hcode)).1]
  have z1 : ¬ 9223372036854775807 < 3 + (BA (catF X)).size := by rw [BA_size, (gc_names _ (cat_mem X hcode)).2]; decide
  have z2 : ¬ 9223372036854775807 < 3 + (BA (scrF X)).size := by rw [BA_size]; have := (sc_names _ (scr_mem X hcode)).2; omega
  clear hcode E
  go_enter Tryz.func5, Tryz.ntmps5
  go_wp2_with fail
  refine C.mono ?_
  rintro e w1 ⟨t, rfl, ht, b1⟩
  clear C
  rw [hX]
  have HT : Hid (Tabs w1 t) := ht
  have C := category_t t X w1 ht
  rw [show sF [67, 110] catL = catF from rfl] at C
  clear ht hX
  go_wp2_with fail
  refine C.mono ?_
  rintro e w2 ⟨rfl, b2⟩
  clear C
  have p1 : (⟨#[103, 99, 61]⟩ : ByteArray) ++ BA (catF X) = BA ([103, 99, 61] ++ catF X) := BA_append [103, 99, 61] _
  have C := set_t t (BA ([103, 99, 61] ++ catF X)) w2 (HT.out.below b2) l1
  rw [e1] at C
  have HG1 : Hid (∀ r, IsSet r (setP (nam.resolveV (BA ([103, 99, 61] ++ catF X)))) → rng.has r X = true) := fun r hr => gc_set X HCD.out r hr
  generalize nam.resolveV (BA ([103, 99, 61] ++ catF X)) = q1 at *
  generalize BA ([103, 99, 61] ++ catF X) = S1 at *
  generalize BA (catF X) = S0 at *
  clear l1
  go_wp2_with fail
  refine C.mono ?_
  rintro e w3 ⟨v3, r3, rfl, o3, s3, b3⟩
  clear C
  have hh3 := HG1.out r3 s3
  have hl3 := rlen s3
  have HO3 : Hid (rng.Own w3 w2.heap.size v3 r3) := o3
  have HT3 : Hid (Tabs w3 t) := (HT.out.below b2).below b3
  clear s3 o3 HG1 HT p1 z1
  have C := script_t t X w3 HT3.out
  rw [show sF [90, 122, 122, 122] scrL = scrF from rfl] at C
  go_wp2_with fail
  refine C.mono ?_
  rintro e w4 ⟨rfl, b4⟩
  clear C
  have p2 : (⟨#[115, 99, 61]⟩ : ByteArray) ++ BA (scrF X) = BA ([115, 99, 61] ++ scrF X) := BA_append [115, 99, 61] _
  have C := set_t t (BA ([115, 99, 61] ++ scrF X)) w4 (HT3.out.below b4) l2
  rw [e2] at C
  have HG2 : Hid (∀ r, IsSet r (setP (nam.resolveV (BA ([115, 99, 61] ++ scrF X)))) → rng.has r X = true) := fun r hr => sc_set X HCD.out r hr
  generalize nam.resolveV (BA ([115, 99, 61] ++ scrF X)) = q2 at *
  generalize BA ([115, 99, 61] ++ scrF X) = S3 at *
  generalize BA (scrF X) = S2 at *
  clear l2
  go_wp2_with fail
  refine C.mono ?_
  rintro e w5 ⟨v5, r5, rfl, o5, s5, b5⟩
  clear C
  have hh5 := HG2.out r5 s5
  have hl5 := rlen s5
  have HO5 : Hid (rng.Own w5 w4.heap.size v5 r5) := o5
  have C := rhas_own v3 r3 X _ w5 (own_below (own_below HO3.out b4) b5) hl3
  rw [hh3] at C
  clear s5 o5 HG2 HT3 p2 z2 HO3
  go_wp2_with fail
  refine C.mono ?_
  rintro e w6 ⟨rfl, b6⟩
  clear C
  have C := rhas_own v5 r5 X _ w6 (own_below HO5.out b6) hl5
  rw [hh5] at C
  clear HO5
  have HB : Hid (Below w.heap.size w w6) := b1.trans ((b2.trans ((b3.trans ((b4.trans ((b5.trans (b6.mono b5.size)).mono b4.size)).mono b3.size)).mono b2.size)).mono b1.size)
  clear b1 b2 b3 b4 b5 b6
  go_wp2_with fail
  refine C.mono ?_
  rintro e w7 ⟨rfl, b7⟩
  clear C
  go_wp2
  go_ret
  exact ⟨rfl, HB.out.trans (b7.mono HB.out.size)⟩
end Go.Proofs.YtnjomfmdogkhgaaGreatDoor.prp
end

section
/- PropsNames: one set, by whatever name. -/
set_option linter.unusedVariables false
set_option linter.unusedSimpArgs false
namespace Go.Proofs.YtnjomfmdogkhgaaGreatDoor.prp
open Go.RowKit Go.Maps lin
open Go.Proofs.YtnjomfmdogkhgaaGreatDoor.rng (R IsSet Sl code)

/-- What Resolve answers: an error alone, or a row of the file. -/
theorem res_cases (s : ByteArray) : (∃ e, nam.resolveV s = (0, [], e) ∧ (e = 50 ∨ e = 51)) ∨ ∃ r ∈ nam.rowsL, (r.1 = [103, 99] ∨ r.1 = [115, 99] ∨ r.1 = [98, 105]) ∧ nam.resolveV s = (nam.numL r.1, r.2.1, 0) := by
  have al : ∀ l, (∃ e, nam.aloneL l = (0, [], e) ∧ (e = 50 ∨ e = 51)) ∨ ∃ r ∈ nam.rowsL, (r.1 = [103, 99] ∨ r.1 = [115, 99] ∨ r.1 = [98, 105]) ∧ nam.aloneL l = (nam.numL r.1, r.2.1, 0) := fun l => by
    cases h1 : nam.lookL ([103, 99], l) with
    | some r =>
      obtain ⟨hm, hk⟩ := nam.look_mem h1
      have hk : r.1 = [103, 99] := hk
      exact .inr ⟨r, hm, .inl hk, by rw [nam.alone1 h1, hk]; rfl⟩
    | none =>
      cases h2 : nam.lookL ([98, 105], l) with
      | some r =>
        obtain ⟨hm, hk⟩ := nam.look_mem h2
        have hk : r.1 = [98, 105] := hk
        exact .inr ⟨r, hm, .inr (.inr hk), by rw [nam.alone2 h1 h2, hk]; rfl⟩
      | none =>
        cases h3 : nam.lookL ([115, 99], l) with
        | some r =>
          obtain ⟨hm, hk⟩ := nam.look_mem h3
          have hk : r.1 = [115, 99] := hk
          exact .inr ⟨r, hm, .inr (.inl hk), by rw [nam.alone3 h1 h2 h3, hk]; rfl⟩
        | none => exact .inl ⟨50, nam.alone4 h1 h2 h3, .inl rfl⟩
  rcases nam.mark_cases s with ⟨h, _⟩ | ⟨p, h, _⟩
  · rw [nam.resolve0 s h]; exact al _
  · rw [nam.resolve1 s p h]
    cases h1 : nam.lookL ([112, 114], nam.looseL (s.data.toList.take p)) with
    | none => exact .inl ⟨50, nam.both0 h1, .inl rfl⟩
    | some r =>
      cases h2 : nam.lookL (r.2.1, nam.looseL (s.data.toList.drop (p + 1))) with
      | none => exact .inl ⟨51, nam.both1 h1 h2, .inr rfl⟩
      | some q =>
        obtain ⟨hm, hk⟩ := nam.look_mem h2
        have hk : q.1 = r.2.1 := hk
        refine .inr ⟨q, hm, ?_, by rw [nam.both2 h1 h2, hk]⟩
        rcases nam.rows_pr r (nam.look_mem h1).1 (nam.look_mem h1).2 with e | e
        · exact .inl (by rw [hk, e])
        · exact .inr (.inl (by rw [hk, e]))
def aheadK (k : List UInt8) : List UInt8 := if k = [103, 99] then [103, 99, 61] else if k = [115, 99] then [115, 99, 61] else []
theorem names_all : ∀ r ∈ nam.rowsL, r.1 = [112, 114] ∨ (nam.resolveV (BA (aheadK r.1 ++ r.2.1)) = (nam.numL r.1, r.2.1, 0) ∧ r.2.1.length ≤ 30) := by decide +kernel
theorem own_empty {w : World} {B : Nat} {v : Value} {r : List R} (h : rng.Own w B v r) (hs : IsSet r (fun _ => false)) : ∃ a c, v = .slice a 0 c := by
  have e : r = [] := hs.eq no_set (fun _ _ => rfl)
  subst e
  obtain ⟨a, c, e, _⟩ := rng.Own.view h
  exact ⟨a, c, e⟩
set_option maxHeartbeats 4000000 in
set_option maxRecDepth 1000000 in
theorem names_walk (s : ByteArray) (w : World) (hs : s.size ≤ 140737488355327) (E : Env w) : Calls Tryz.prog 7 #[.string s] w fun e w' => e = .returned (.bool true) ∧ Below w.heap.size w w' := by
  have C := load_any w E
  have HE : Hid (Env w) := E
  have RE : Hid (∀ W, Calls Tryz.prog 31 #[.string s] W fun e w' => e = .returned (.tuple #[.int .i64 (nam.resolveV s).1, .string (BA (nam.resolveV s).2.1), .int .i64 (nam.resolveV s).2.2]) ∧ Below W.heap.size W w') := fun W => nam.resolve_any s W hs
  have ST : Hid (∀ t W, Tabs W t → Calls Tryz.prog 27 #[.pointer (some ⟨t, 0, none⟩), .string s] W fun e w' => ∃ v' r, e = .returned (.tuple #[v', .int .i64 (nam.resolveV s).2.2]) ∧ rng.Own w' W.heap.size v' r ∧ IsSet r (setP (nam.resolveV s)) ∧ Below W.heap.size W w') := fun t W h => set_t t s W h hs
  clear E
  rcases res_cases s with ⟨er, hr, he⟩ | ⟨r, hm, hk, hr⟩
  · rw [hr] at RE ST
    have hP : setP (0, [], er) = fun _ => false := by
      funext x; unfold setP; rcases he with rfl | rfl <;> rfl
    rw [hP] at ST
    have t1 : (er == 0) = false := by rcases he with rfl | rfl <;> rfl
    have t1' : (er != 0) = true := by rcases he with rfl | rfl <;> rfl
    have t2 : (er == er) = true := beq_self_eq_true _
    simp only at RE ST
    clear he hr hP
    generalize BA [] = x at *
    go_enter Tryz.func7, Tryz.ntmps7
    go_wp2_with fail
    refine C.mono ?_
    rintro e w1 ⟨t, rfl, ht, b1⟩
    clear C
    have HT : Hid (Tabs w1 t) := ht
    clear ht
    go_wp2_with fail
    refine (RE.out _).mono ?_
    rintro e w2 ⟨rfl, b2⟩
    go_wp2_with fail
    refine (ST.out t _ (HT.out.below b2)).mono ?_
    rintro e w3 ⟨v3, r3, rfl, o3, s3, b3⟩
    obtain ⟨a3, c3, rfl⟩ := own_empty o3 s3
    have HB : Hid (Below w.heap.size w w3) := b1.trans ((b2.trans (b3.mono b2.size)).mono b1.size)
    clear o3 s3 b1 b2 b3
    have C := prp.awake_any w3 (HE.out.below HB.out)
    go_wp2_with fail
    refine C.mono ?_
    rintro e w4 ⟨rfl, b4⟩
    clear C
    go_wp2
    go_ret
    exact ⟨rfl, HB.out.trans (b4.mono HB.out.size)⟩
  · rw [hr] at RE ST
    simp only at RE ST
    obtain ⟨hb, hsm⟩ : nam.resolveV (BA (aheadK r.1 ++ r.2.1)) = (nam.numL r.1, r.2.1, 0) ∧ r.2.1.length ≤ 30 := by
      rcases names_all r hm with h | h
      · rw [h] at hk; rcases hk with h | h | h <;> exact absurd h (by decide)
      · exact h
    have SB : Hid (∀ t W, Tabs W t → Calls Tryz.prog 27 #[.pointer (some ⟨t, 0, none⟩), .string (BA (aheadK r.1 ++ r.2.1))] W fun e w' => ∃ v' q, e = .returned (.tuple #[v', .int .i64 0]) ∧ rng.Own w' W.heap.size v' q ∧ IsSet q (setP (nam.numL r.1, r.2.1, 0)) ∧ Below W.heap.size W w') := fun t W h => by
      have hz : (BA (aheadK r.1 ++ r.2.1)).size ≤ 140737488355327 := by
        have : (aheadK r.1).length ≤ 3 := by unfold aheadK; (repeat' split) <;> simp
        rw [BA_size, List.length_append]; omega
      have := set_t t (BA (aheadK r.1 ++ r.2.1)) W h hz
      rw [hb] at this
      exact this
    obtain ⟨r0, r1, r2⟩ := r
    simp only at RE ST SB hk hsm
    clear hr hb hm
    have hz1 : (BA r1).size = r1.length := BA_size r1
    rcases hk with rfl | rfl | rfl
    · have hX : (⟨#[103, 99, 61]⟩ : ByteArray) ++ BA r1 = BA (aheadK [103, 99] ++ r1) := BA_append [103, 99, 61] r1
      have c3 : ByteArray.size ⟨#[103, 99, 61]⟩ = 3 := rfl
      have z3 : ¬ 9223372036854775807 < 3 + (BA r1).size := by omega
      rw [show nam.numL [103, 99] = 1 from rfl] at *
      have hq1 : min (max (1 : Int) 0) 3 = 1 := by decide
      generalize setP (1, r1, 0) = P at *
      generalize BA (aheadK [103, 99] ++ r1) = X at *
      generalize BA r1 = x at *
      go_enter Tryz.func7, Tryz.ntmps7
      go_wp2_with fail
      refine C.mono ?_
      rintro e w1 ⟨t, rfl, ht, b1⟩
      clear C
      have HT : Hid (Tabs w1 t) := ht
      clear ht
      go_wp2_with fail
      refine (RE.out _).mono ?_
      rintro e w2 ⟨rfl, b2⟩
      go_wp2_with fail
      refine (ST.out t _ (HT.out.below b2)).mono ?_
      rintro e w3 ⟨v3, r3, rfl, o3, s3, b3⟩
      have HO3 : Hid (rng.Own w3 w2.heap.size v3 r3) := o3
      have HS3 : Hid (IsSet r3 P) := s3
      have HT3 : Hid (Tabs w3 t) := (HT.out.below b2).below b3
      have b3' := b1.trans ((b2.trans (b3.mono b2.size)).mono b1.size)
      clear o3 s3 b1 b2 b3 HT
      have W3b := (Below.refl w3.heap.size w3).alloc (Nat.le_refl _) (.cells #[.string ⟨#[]⟩, .string ⟨#[103, 99, 61]⟩, .string ⟨#[115, 99, 61]⟩, .string ⟨#[]⟩] 9)
      have HT4 := HT3.out.below W3b
      have HO4 : Hid (rng.Own (w3.alloc (.cells #[.string ⟨#[]⟩, .string ⟨#[103, 99, 61]⟩, .string ⟨#[115, 99, 61]⟩, .string ⟨#[]⟩] 9)) w2.heap.size v3 r3) := own_below HO3.out W3b
      have HB4 : Hid (Below w.heap.size w (w3.alloc (.cells #[.string ⟨#[]⟩, .string ⟨#[103, 99, 61]⟩, .string ⟨#[115, 99, 61]⟩, .string ⟨#[]⟩] 9))) := b3'.trans (W3b.mono b3'.size)
      have C := SB.out t _ HT4
      clear HT3 HT4 HO3 W3b b3'
      go_wp2_with fail
      refine C.mono ?_
      rintro e w5 ⟨v5, r5, rfl, o5, s5, b5⟩
      clear C
      have D := rng.equal_s v3 v5 r3 r5 w5 (rng.Own.sl (own_below HO4.out b5)) (rng.Own.sl o5) (rlen HS3.out) (HS3.out.eq s5 (fun _ _ => rfl))
      have HB5 : Hid (Below w.heap.size w w5) := HB4.out.trans (b5.mono HB4.out.size)
      clear o5 s5 b5 HO4 HB4 HS3
      go_wp2_with fail
      refine D.mono ?_
      rintro e w6 ⟨rfl, b6⟩
      clear D
      have HB6 : Hid (Below w.heap.size w w6) := HB5.out.trans (b6.mono HB5.out.size)
      have C := prp.awake_any w6 (HE.out.below HB6.out)
      clear b6 HB5
      go_wp2_with fail
      refine C.mono ?_
      rintro e w7 ⟨rfl, b7⟩
      clear C
      go_wp2
      go_ret
      exact ⟨rfl, HB6.out.trans (b7.mono HB6.out.size)⟩
    · have hX : (⟨#[115, 99, 61]⟩ : ByteArray) ++ BA r1 = BA (aheadK [115, 99] ++ r1) := BA_append [115, 99, 61] r1
      have c3 : ByteArray.size ⟨#[115, 99, 61]⟩ = 3 := rfl
      have z3 : ¬ 9223372036854775807 < 3 + (BA r1).size := by omega
      rw [show nam.numL [115, 99] = 2 from rfl] at *
      have hq1 : min (max (2 : Int) 0) 3 = 2 := by decide
      generalize setP (2, r1, 0) = P at *
      generalize BA (aheadK [115, 99] ++ r1) = X at *
      generalize BA r1 = x at *
      go_enter Tryz.func7, Tryz.ntmps7
      go_wp2_with fail
      refine C.mono ?_
      rintro e w1 ⟨t, rfl, ht, b1⟩
      clear C
      have HT : Hid (Tabs w1 t) := ht
      clear ht
      go_wp2_with fail
      refine (RE.out _).mono ?_
      rintro e w2 ⟨rfl, b2⟩
      go_wp2_with fail
      refine (ST.out t _ (HT.out.below b2)).mono ?_
      rintro e w3 ⟨v3, r3, rfl, o3, s3, b3⟩
      have HO3 : Hid (rng.Own w3 w2.heap.size v3 r3) := o3
      have HS3 : Hid (IsSet r3 P) := s3
      have HT3 : Hid (Tabs w3 t) := (HT.out.below b2).below b3
      have b3' := b1.trans ((b2.trans (b3.mono b2.size)).mono b1.size)
      clear o3 s3 b1 b2 b3 HT
      have W3b := (Below.refl w3.heap.size w3).alloc (Nat.le_refl _) (.cells #[.string ⟨#[]⟩, .string ⟨#[103, 99, 61]⟩, .string ⟨#[115, 99, 61]⟩, .string ⟨#[]⟩] 9)
      have HT4 := HT3.out.below W3b
      have HO4 : Hid (rng.Own (w3.alloc (.cells #[.string ⟨#[]⟩, .string ⟨#[103, 99, 61]⟩, .string ⟨#[115, 99, 61]⟩, .string ⟨#[]⟩] 9)) w2.heap.size v3 r3) := own_below HO3.out W3b
      have HB4 : Hid (Below w.heap.size w (w3.alloc (.cells #[.string ⟨#[]⟩, .string ⟨#[103, 99, 61]⟩, .string ⟨#[115, 99, 61]⟩, .string ⟨#[]⟩] 9))) := b3'.trans (W3b.mono b3'.size)
      have C := SB.out t _ HT4
      clear HT3 HT4 HO3 W3b b3'
      go_wp2_with fail
      refine C.mono ?_
      rintro e w5 ⟨v5, r5, rfl, o5, s5, b5⟩
      clear C
      have D := rng.equal_s v3 v5 r3 r5 w5 (rng.Own.sl (own_below HO4.out b5)) (rng.Own.sl o5) (rlen HS3.out) (HS3.out.eq s5 (fun _ _ => rfl))
      have HB5 : Hid (Below w.heap.size w w5) := HB4.out.trans (b5.mono HB4.out.size)
      clear o5 s5 b5 HO4 HB4 HS3
      go_wp2_with fail
      refine D.mono ?_
      rintro e w6 ⟨rfl, b6⟩
      clear D
      have HB6 : Hid (Below w.heap.size w w6) := HB5.out.trans (b6.mono HB5.out.size)
      have C := prp.awake_any w6 (HE.out.below HB6.out)
      clear b6 HB5
      go_wp2_with fail
      refine C.mono ?_
      rintro e w7 ⟨rfl, b7⟩
      clear C
      go_wp2
      go_ret
      exact ⟨rfl, HB6.out.trans (b7.mono HB6.out.size)⟩
    · have hX : (⟨#[]⟩ : ByteArray) ++ BA r1 = BA (aheadK [98, 105] ++ r1) := BA_append [] r1
      have c3 : ByteArray.size ⟨#[]⟩ = 0 := rfl
      have z3 : ¬ 9223372036854775807 < 0 + (BA r1).size := by omega
      rw [show nam.numL [98, 105] = 3 from rfl] at *
      have hq1 : min (max (3 : Int) 0) 3 = 3 := by decide
      generalize setP (3, r1, 0) = P at *
      have hXY : BA (aheadK [98, 105] ++ r1) = BA r1 := rfl
      rw [hXY] at *
      clear hXY
      generalize BA r1 = x at *
      go_enter Tryz.func7, Tryz.ntmps7
      go_wp2_with fail
      refine C.mono ?_
      rintro e w1 ⟨t, rfl, ht, b1⟩
      clear C
      have HT : Hid (Tabs w1 t) := ht
      clear ht
      go_wp2_with fail
      refine (RE.out _).mono ?_
      rintro e w2 ⟨rfl, b2⟩
      go_wp2_with fail
      refine (ST.out t _ (HT.out.below b2)).mono ?_
      rintro e w3 ⟨v3, r3, rfl, o3, s3, b3⟩
      have HO3 : Hid (rng.Own w3 w2.heap.size v3 r3) := o3
      have HS3 : Hid (IsSet r3 P) := s3
      have HT3 : Hid (Tabs w3 t) := (HT.out.below b2).below b3
      have b3' := b1.trans ((b2.trans (b3.mono b2.size)).mono b1.size)
      clear o3 s3 b1 b2 b3 HT
      have W3b := (Below.refl w3.heap.size w3).alloc (Nat.le_refl _) (.cells #[.string ⟨#[]⟩, .string ⟨#[103, 99, 61]⟩, .string ⟨#[115, 99, 61]⟩, .string ⟨#[]⟩] 9)
      have HT4 := HT3.out.below W3b
      have HO4 : Hid (rng.Own (w3.alloc (.cells #[.string ⟨#[]⟩, .string ⟨#[103, 99, 61]⟩, .string ⟨#[115, 99, 61]⟩, .string ⟨#[]⟩] 9)) w2.heap.size v3 r3) := own_below HO3.out W3b
      have HB4 : Hid (Below w.heap.size w (w3.alloc (.cells #[.string ⟨#[]⟩, .string ⟨#[103, 99, 61]⟩, .string ⟨#[115, 99, 61]⟩, .string ⟨#[]⟩] 9))) := b3'.trans (W3b.mono b3'.size)
      have C := SB.out t _ HT4
      clear HT3 HT4 HO3 W3b b3'
      go_wp2_with fail
      refine C.mono ?_
      rintro e w5 ⟨v5, r5, rfl, o5, s5, b5⟩
      clear C
      have D := rng.equal_s v3 v5 r3 r5 w5 (rng.Own.sl (own_below HO4.out b5)) (rng.Own.sl o5) (rlen HS3.out) (HS3.out.eq s5 (fun _ _ => rfl))
      have HB5 : Hid (Below w.heap.size w w5) := HB4.out.trans (b5.mono HB4.out.size)
      clear o5 s5 b5 HO4 HB4 HS3
      go_wp2_with fail
      refine D.mono ?_
      rintro e w6 ⟨rfl, b6⟩
      clear D
      have HB6 : Hid (Below w.heap.size w w6) := HB5.out.trans (b6.mono HB5.out.size)
      have C := prp.awake_any w6 (HE.out.below HB6.out)
      clear b6 HB5
      go_wp2_with fail
      refine C.mono ?_
      rintro e w7 ⟨rfl, b7⟩
      clear C
      go_wp2
      go_ret
      exact ⟨rfl, HB6.out.trans (b7.mono HB6.out.size)⟩
end Go.Proofs.YtnjomfmdogkhgaaGreatDoor.prp
end

section
/- rubricatorref06.category, rubricatorref06.Set; PropsSet: the set of any expression, or the error. -/
set_option linter.unusedVariables false
set_option linter.unusedSimpArgs false
namespace Go.Proofs.YtnjomfmdogkhgaaGreatDoor.prp
open Go.RowKit Go.Maps lin
open Go.Proofs.YtnjomfmdogkhgaaGreatDoor.rng (R IsSet Sl code)

theorem view_slice {w : World} {v : Value} {rs : List RecT} (h : View w v rs) : ∃ a c, v = .slice a rs.length c := by obtain ⟨a, c, e, _⟩ := h; exact ⟨a, c, e⟩
theorem sl_slice {w : World} {v : Value} {l : List R} (h : Sl w v l) : ∃ a c, v = .slice a l.length c := by obtain ⟨a, c, e, _⟩ := h; exact ⟨a, c, e⟩
set_option maxHeartbeats 2000000 in
set_option maxRecDepth 1000000 in
theorem category_any (t : Nat) (v : List UInt8) (w : World) (h : RTabs w t) (hv : v ≠ []) : Calls Tryz.prog 57 #[.pointer (some ⟨t, 0, none⟩), .string (BA v)] w fun e w' => ∃ v' r, e = .returned v' ∧ Sl w' v' r ∧ IsSet r (catP v) ∧ Below w.heap.size w w' := by
  have HT : Hid (RTabs w t) := h
  obtain ⟨vc, hc, hV⟩ := h.cat
  obtain ⟨b, hb⟩ : ∃ b, (v.length == 1) = b := ⟨_, rfl⟩
  have C := with_any vc catL v b w hV cat_ok.1 cat_ok.2.1 cat_ok.2.2
  have HAL : Hid (∀ W, Below w.heap.size w W → Calls Tryz.prog 59 #[vc] W fun e w' => ∃ v' r, e = .returned v' ∧ Sl w' v' r ∧ IsSet r (fun x => catL.any (fun y => allR y && inR y x)) ∧ Below W.heap.size W w') := fun W hb => all_any vc catL W (hV.below hb (Nat.le_refl _)) cat_ok.1 cat_ok.2.1
  have HCE : Hid (∀ W, Below w.heap.size w W → W.cell? ⟨t, 0, none⟩ = some vc) := fun W hb => cell_below hb hc
  have hbz : (((BA v).size : Int) == 1) = b := by rw [BA_size, ← hb]; cases hq : (v.length == 1) <;> simp at hq ⊢ <;> omega
  have HR : Hid (∀ x, catP v x = (catL.any (fun y => wB v b y && inR y x) || ((v == [67, 110] || v == [67]) && !(catL.any (fun y => inR y x))))) := fun x => by rw [catP_ref v hv x, hb]
  obtain ⟨ac, cc, rfl⟩ := view_slice hV
  generalize (catL.map recOf).length = nc at *
  clear h hV hb
  by_cases h1 : v = [67, 110] ∨ v = [67]
  · have HP : Hid (∀ x, catP v x = (catL.any (fun y => wB v b y && inR y x) || !(catL.any (fun y => allR y && inR y x)))) := fun x => by
      have e : (v == [67, 110] || v == [67]) = true := by rcases h1 with e | e <;> rw [e] <;> decide
      have e2 : (fun y => allR y && inR y x) = (fun y => inR y x) := by funext y; rfl
      rw [HR.out, e, Bool.true_and, e2]
    obtain ⟨g0, hg0⟩ : ∃ g, ((BA v).toList == [67, 110]) = g := ⟨_, rfl⟩
    obtain ⟨g1, hg1⟩ : ∃ g, ((BA v).toList == [67]) = g := ⟨_, rfl⟩
    have hor : g0 = true ∨ (g0 = false ∧ g1 = true) := by
      by_cases e : v = [67, 110]
      · left; rw [← hg0, e]; exact beqT _
      · right; exact ⟨by rw [← hg0]; exact beqF e, by rw [← hg1, h1.resolve_left e]; exact beqT _⟩
    clear HR h1 hv
    generalize BA v = B at *
    rcases hor with rfl | ⟨rfl, rfl⟩
    · go_enter Tryz.func57, Tryz.ntmps57
      go_wp2_with fail
      refine C.mono ?_
      rintro e w1 ⟨v1, r1, rfl, o1, s1, b1⟩
      clear C
      have C := HAL.out w1 b1
      have hc1 := HCE.out w1 b1
      have HS1 : Hid (IsSet r1 (fun x => catL.any (fun y => wB v b y && inR y x))) := s1
      have HO1 : Hid (Sl w1 v1 r1) := o1
      clear o1 s1
      go_wp2_with fail
      refine C.mono ?_
      rintro e w2 ⟨v2, r2, rfl, o2, s2, b2⟩
      clear C
      have HS2 : Hid (IsSet r2 (fun x => catL.any (fun y => allR y && inR y x))) := s2
      have C := rng.rnot_s v2 r2 w2 o2 (rlen s2)
      clear o2 s2
      go_wp2_with fail
      refine C.mono ?_
      rintro e w3 ⟨v3, r3, rfl, o3, s3, b3⟩
      clear C
      have HS3 : Hid (IsSet r3 (fun x => !rng.has r2 x)) := s3
      have C := rng.runion_s v1 v3 r1 r3 w3 ((HO1.out.below b2).below b3) o3 (rlen HS1.out) (rlen s3)
      have HB3 : Hid (Below w.heap.size w w3) := b1.trans ((b2.trans (b3.mono b2.size)).mono b1.size)
      clear o3 s3 HO1 b1 b2 b3 hc1
      go_wp2_with fail
      refine C.mono ?_
      rintro e w4 ⟨v4, r4, rfl, o4, s4, b4⟩
      clear C
      obtain ⟨a4, c4, rfl⟩ := sl_slice o4
      have HO4 : Hid (Sl w4 (.slice a4 r4.length c4) r4) := o4
      have HS4 : Hid (IsSet r4 (catP v)) := s4.congr (fun x hx => by
        have e1 : rng.has r1 x = _ := HS1.out.2 x hx
        have e2 : rng.has r2 x = _ := HS2.out.2 x hx
        have e3 : rng.has r3 x = (!rng.has r2 x) := HS3.out.2 x hx
        show (rng.has r1 x || rng.has r3 x) = _
        rw [HP.out, e3, e1, e2])
      clear o4 s4
      generalize r4.length = n4 at *
      go_wp2
      try rw [Exit.noGoto_ret]
      go_ret
      exact ⟨_, r4, rfl, HO4.out, HS4.out, HB3.out.trans (b4.mono HB3.out.size)⟩
    · go_enter Tryz.func57, Tryz.ntmps57
      go_wp2_with fail
      refine C.mono ?_
      rintro e w1 ⟨v1, r1, rfl, o1, s1, b1⟩
      clear C
      have C := HAL.out w1 b1
      have hc1 := HCE.out w1 b1
      have HS1 : Hid (IsSet r1 (fun x => catL.any (fun y => wB v b y && inR y x))) := s1
      have HO1 : Hid (Sl w1 v1 r1) := o1
      clear o1 s1
      go_wp2_with fail
      refine C.mono ?_
      rintro e w2 ⟨v2, r2, rfl, o2, s2, b2⟩
      clear C
      have HS2 : Hid (IsSet r2 (fun x => catL.any (fun y => allR y && inR y x))) := s2
      have C := rng.rnot_s v2 r2 w2 o2 (rlen s2)
      clear o2 s2
      go_wp2_with fail
      refine C.mono ?_
      rintro e w3 ⟨v3, r3, rfl, o3, s3, b3⟩
      clear C
      have HS3 : Hid (IsSet r3 (fun x => !rng.has r2 x)) := s3
      have C := rng.runion_s v1 v3 r1 r3 w3 ((HO1.out.below b2).below b3) o3 (rlen HS1.out) (rlen s3)
      have HB3 : Hid (Below w.heap.size w w3) := b1.trans ((b2.trans (b3.mono b2.size)).mono b1.size)
      clear o3 s3 HO1 b1 b2 b3 hc1
      go_wp2_with fail
      refine C.mono ?_
      rintro e w4 ⟨v4, r4, rfl, o4, s4, b4⟩
      clear C
      obtain ⟨a4, c4, rfl⟩ := sl_slice o4
      have HO4 : Hid (Sl w4 (.slice a4 r4.length c4) r4) := o4
      have HS4 : Hid (IsSet r4 (catP v)) := s4.congr (fun x hx => by
        have e1 : rng.has r1 x = _ := HS1.out.2 x hx
        have e2 : rng.has r2 x = _ := HS2.out.2 x hx
        have e3 : rng.has r3 x = (!rng.has r2 x) := HS3.out.2 x hx
        show (rng.has r1 x || rng.has r3 x) = _
        rw [HP.out, e3, e1, e2])
      clear o4 s4
      generalize r4.length = n4 at *
      go_wp2
      try rw [Exit.noGoto_ret]
      go_ret
      exact ⟨_, r4, rfl, HO4.out, HS4.out, HB3.out.trans (b4.mono HB3.out.size)⟩

  · have HP : Hid (∀ x, catP v x = catL.any (fun y => wB v b y && inR y x)) := fun x => by
      have e : (v == [67, 110] || v == [67]) = false := by
        rw [Bool.or_eq_false_iff, beq_eq_false_iff_ne, beq_eq_false_iff_ne]
        exact ⟨fun e => h1 (.inl e), fun e => h1 (.inr e)⟩
      rw [HR.out, e, Bool.false_and, Bool.or_false]
    have g0 : ((BA v).toList == [67, 110]) = false := beqF (fun e => h1 (.inl e))
    have g1 : ((BA v).toList == [67]) = false := beqF (fun e => h1 (.inr e))
    clear HR h1 hv
    generalize BA v = B at *
    go_enter Tryz.func57, Tryz.ntmps57
    go_wp2_with fail
    refine C.mono ?_
    rintro e w1 ⟨v1, r1, rfl, o1, s1, b1⟩
    clear C
    obtain ⟨a1, c1, rfl⟩ := sl_slice o1
    have HO : Hid (Sl w1 (.slice a1 r1.length c1) r1) := o1
    have HS : Hid (IsSet r1 (catP v)) := s1.congr (fun x _ => by rw [HP.out])
    clear o1 s1
    generalize r1.length = n1 at *
    go_wp2
    try rw [Exit.noGoto_ret]
    go_ret
    exact ⟨_, r1, rfl, HO.out, HS.out, b1⟩
set_option maxHeartbeats 8000000 in
set_option maxRecDepth 1000000 in
theorem rset_any (t : Nat) (s : ByteArray) (w : World) (h : RTabs w t) (hs : s.size ≤ 140737488355327) : Calls Tryz.prog 28 #[.pointer (some ⟨t, 0, none⟩), .string s] w fun e w' => ∃ v' r, e = .returned (.tuple #[v', .int .i64 (nam.resolveV s).2.2]) ∧ Sl w' v' r ∧ IsSet r (setP (nam.resolveV s)) ∧ Below w.heap.size w w' := by
  have HT : Hid (RTabs w t) := h
  have RE := nam.rresolve_any s w hs
  clear h
  rcases res_cases s with ⟨er, hr, he⟩ | ⟨r, hm, hk, hr⟩
  · rw [hr] at RE ⊢
    have hP : setP (0, [], er) = fun _ => false := by
      funext x; unfold setP; rcases he with rfl | rfl <;> rfl
    rw [hP]
    have t1 : (er == 0) = false := by rcases he with rfl | rfl <;> rfl
    have t1' : (er != 0) = true := by rcases he with rfl | rfl <;> rfl
    simp only at RE ⊢
    clear he hr hP
    generalize BA [] = x at *
    go_enter Tryz.func28, Tryz.ntmps28
    go_wp2_with fail
    refine RE.mono ?_
    rintro e w1 ⟨rfl, b1⟩
    clear RE
    go_wp2
    try rw [Exit.noGoto_ret]
    go_ret2
    exact ⟨_, [], rfl, ⟨none, 0, rfl, .inl rfl, fun _ => rfl⟩, no_set, b1⟩
  · rw [hr] at RE ⊢
    simp only at RE ⊢
    have hne := nam.rows_short r hm
    have hsc := sc_vals r hm
    have hbi := bi_vals r hm
    obtain ⟨r0, r1, r2⟩ := r
    simp only at RE hk hne hsc hbi ⊢
    clear hr hm
    rcases hk with rfl | rfl | rfl
    · rw [show nam.numL [103, 99] = 1 from rfl] at *
      have hP : setP (1, r1, 0) = catP r1 := by funext x; unfold setP; simp
      rw [hP]
      clear hP hsc hbi
      have HC : Hid (∀ W, Below w.heap.size w W → Calls Tryz.prog 57 #[.pointer (some ⟨t, 0, none⟩), .string (BA r1)] W fun e w' => ∃ v' r, e = .returned v' ∧ Sl w' v' r ∧ IsSet r (catP r1) ∧ Below W.heap.size W w') := fun W hb => category_any t r1 W (HT.out.below hb) hne
      clear hne
      generalize BA r1 = B at *
      go_enter Tryz.func28, Tryz.ntmps28
      go_wp2_with fail
      refine RE.mono ?_
      rintro e w1 ⟨rfl, b1⟩
      clear RE
      have C := HC.out w1 b1
      go_wp2_with fail
      refine C.mono ?_
      rintro e w2 ⟨v2, q2, rfl, o2, s2, b2⟩
      clear C
      have HO : Hid (Sl w2 v2 q2) := o2
      have HS : Hid (IsSet q2 (catP r1)) := s2
      clear o2 s2
      go_wp2
      try rw [Exit.noGoto_ret]
      go_ret2
      exact ⟨_, q2, rfl, HO.out, HS.out, b1.trans (b2.mono b1.size)⟩
    · rw [show nam.numL [115, 99] = 2 from rfl] at *
      have hP : setP (2, r1, 0) = fun x => decide (scrF x = r1) := by funext x; unfold setP; simp
      rw [hP]
      clear hP hbi
      obtain ⟨n1, n2, n3, n4, n5, n6⟩ := hsc rfl
      have HSR : Hid (∀ x, decide (scrF x = r1) = if r1 = [90, 122, 122, 122] then !(scrL.any (fun y => inR y x)) else scrL.any (fun y => wB r1 false y && inR y x)) := scrP_ref r1
      by_cases hz : r1 = [90, 122, 122, 122]
      · have g0 : ((BA r1).toList == [90, 122, 122, 122]) = true := by rw [hz]; exact beqT _
        have HSQ : Hid (∀ x, decide (scrF x = r1) = !(scrL.any (fun y => allR y && inR y x))) := fun x => by rw [HSR.out, if_pos hz]; rfl
        clear HSR hz n1 n2 n3 n4 n5 n6 hsc hne
        generalize BA r1 = B at *
        go_enter Tryz.func28, Tryz.ntmps28
        go_wp2_with fail
        refine RE.mono ?_
        rintro e w1 ⟨rfl, b1⟩
        clear RE
        obtain ⟨vs, hc, hV⟩ := (HT.out.below b1).scr
        have C := all_any vs scrL w1 hV scr_ok.1 scr_ok.2.1
        clear hV
        go_wp2_with fail
        refine C.mono ?_
        rintro e w2 ⟨v2, q2, rfl, o2, s2, b2⟩
        clear C
        have HS2 : Hid (IsSet q2 (fun x => scrL.any (fun y => allR y && inR y x))) := s2
        have C := rng.rnot_s v2 q2 w2 o2 (rlen s2)
        clear o2 s2
        go_wp2_with fail
        refine C.mono ?_
        rintro e w3 ⟨v3, q3, rfl, o3, s3, b3⟩
        clear C
        have HO : Hid (Sl w3 v3 q3) := o3
        have HS : Hid (IsSet q3 (fun x => decide (scrF x = r1))) := s3.congr (fun x hx => by
          have e2 : rng.has q2 x = _ := HS2.out.2 x hx
          show (!rng.has q2 x) = decide (scrF x = r1)
          rw [HSQ.out, e2])
        clear o3 s3
        go_wp2
        try rw [Exit.noGoto_ret]
        go_ret2
        exact ⟨_, q3, rfl, HO.out, HS.out, b1.trans ((b2.trans (b3.mono b2.size)).mono b1.size)⟩
      · have g0 := beqF hz
        have g1 := beqF n1
        have g2 := beqF n2
        have g3 := beqF n3
        have g4 := beqF n4
        have g5 := beqF n5
        have g6 := beqF n6
        have HSQ : Hid (∀ x, decide (scrF x = r1) = scrL.any (fun y => wB r1 false y && inR y x)) := fun x => by rw [HSR.out, if_neg hz]
        have HWI : Hid (∀ W vs, View W vs (scrL.map recOf) → Calls Tryz.prog 61 #[vs, .string (BA r1), .bool false] W fun e w' => ∃ v' r, e = .returned v' ∧ Sl w' v' r ∧ IsSet r (fun x => scrL.any (fun y => wB r1 false y && inR y x)) ∧ Below W.heap.size W w') := fun W vs hV => with_any vs scrL r1 false W hV scr_ok.1 scr_ok.2.1 scr_ok.2.2
        clear HSR hz n1 n2 n3 n4 n5 n6 hsc hne
        generalize BA r1 = B at *
        go_enter Tryz.func28, Tryz.ntmps28
        go_wp2_with fail
        refine RE.mono ?_
        rintro e w1 ⟨rfl, b1⟩
        clear RE
        obtain ⟨vs, hc, hV⟩ := (HT.out.below b1).scr
        have C := HWI.out w1 vs hV
        clear hV
        go_wp2_with fail
        refine C.mono ?_
        rintro e w2 ⟨v2, q2, rfl, o2, s2, b2⟩
        clear C
        have HO : Hid (Sl w2 v2 q2) := o2
        have HS : Hid (IsSet q2 (fun x => decide (scrF x = r1))) := s2.congr (fun x hx => by rw [HSQ.out])
        clear o2 s2
        go_wp2
        try rw [Exit.noGoto_ret]
        go_ret2
        exact ⟨_, q2, rfl, HO.out, HS.out, b1.trans (b2.mono b1.size)⟩
    · rw [show nam.numL [98, 105] = 3 from rfl] at *
      have hP : setP (3, r1, 0) = binP r1 := by funext x; unfold setP; simp
      rw [hP]
      clear hP hsc hne
      rcases hbi rfl with rfl | rfl | rfl | rfl | rfl | rfl
      · have f0 : ((BA [65, 110, 121]).toList == [90, 122, 122, 122]) = false := by decide +kernel
        have fT : ((BA [65, 110, 121]).toList == [65, 110, 121]) = true := beqT _
        clear hbi
        have hP : binP [65, 110, 121] = fun _ => true := by funext x; rfl
        rw [hP]
        clear hP
        generalize BA [65, 110, 121] = B at *
        go_enter Tryz.func28, Tryz.ntmps28
        go_wp2_with fail
        refine RE.mono ?_
        rintro e w1 ⟨rfl, b1⟩
        clear RE
        have hs1 := b1.size
        go_wp2
        try rw [Exit.noGoto_ret]
        go_ret2
        exact ⟨_, [(0, 1114111)], rfl, rng.Own.sl (lit_own w1 _ _ rfl (by decide)), any_set, b1.alloc hs1 _⟩
      · have f0 : ((BA [65, 83, 67, 73, 73]).toList == [90, 122, 122, 122]) = false := by decide +kernel
        have f1 : ((BA [65, 83, 67, 73, 73]).toList == [65, 110, 121]) = false := by decide +kernel
        have fT : ((BA [65, 83, 67, 73, 73]).toList == [65, 83, 67, 73, 73]) = true := beqT _
        clear hbi
        have hP : binP [65, 83, 67, 73, 73] = fun x => decide (x ≤ 127) := by funext x; rfl
        rw [hP]
        clear hP
        generalize BA [65, 83, 67, 73, 73] = B at *
        go_enter Tryz.func28, Tryz.ntmps28
        go_wp2_with fail
        refine RE.mono ?_
        rintro e w1 ⟨rfl, b1⟩
        clear RE
        have hs1 := b1.size
        go_wp2
        try rw [Exit.noGoto_ret]
        go_ret2
        exact ⟨_, [(0, 127)], rfl, rng.Own.sl (lit_own w1 _ _ rfl (by decide)), ascii_set, b1.alloc hs1 _⟩
      · have f0 : ((BA [65, 108, 112, 104, 97]).toList == [90, 122, 122, 122]) = false := by decide +kernel
        have f1 : ((BA [65, 108, 112, 104, 97]).toList == [65, 110, 121]) = false := by decide +kernel
        have f2 : ((BA [65, 108, 112, 104, 97]).toList == [65, 83, 67, 73, 73]) = false := by decide +kernel
        have fT : ((BA [65, 108, 112, 104, 97]).toList == [65, 108, 112, 104, 97]) = true := beqT _
        clear hbi
        have hP : binP [65, 108, 112, 104, 97] = fun x => catP [76] x || catP [78, 108] x := by funext x; rfl
        rw [hP]
        clear hP
        generalize BA [65, 108, 112, 104, 97] = B at *
        go_enter Tryz.func28, Tryz.ntmps28
        go_wp2_with fail
        refine RE.mono ?_
        rintro e w1 ⟨rfl, b1⟩
        clear RE
        have C := category_any t [76] w1 (HT.out.below b1) (by decide)
        rw [show BA [76] = ⟨#[76]⟩ from rfl] at C
        go_wp2_with fail
        refine C.mono ?_
        rintro e w2 ⟨v2, q2, rfl, o2, s2, b2⟩
        clear C
        have HO2 : Hid (Sl w2 v2 q2) := o2
        have HS2 : Hid (IsSet q2 (catP [76])) := s2
        clear o2 s2
        have b12 := b1.trans (b2.mono b1.size)
        have C := category_any t [78, 108] w2 (HT.out.below b12) (by decide)
        rw [show BA [78, 108] = ⟨#[78, 108]⟩ from rfl] at C
        go_wp2_with fail
        refine C.mono ?_
        rintro e w3 ⟨v3, q3, rfl, o3, s3, b3⟩
        clear C
        have HS3 : Hid (IsSet q3 (catP [78, 108])) := s3
        have C := rng.runion_s v2 v3 q2 q3 w3 (HO2.out.below b3) o3 (rlen HS2.out) (rlen s3)
        clear o3 s3 HO2
        go_wp2_with fail
        refine C.mono ?_
        rintro e w4 ⟨v4, q4, rfl, o4, s4, b4⟩
        clear C
        have HO : Hid (Sl w4 v4 q4) := o4
        have HS : Hid (IsSet q4 (fun x => catP [76] x || catP [78, 108] x)) := s4.congr (fun x hx => by
          have e2 : rng.has q2 x = _ := HS2.out.2 x hx
          have e3 : rng.has q3 x = _ := HS3.out.2 x hx
          show (rng.has q2 x || rng.has q3 x) = _
          rw [e2, e3])
        clear o4 s4
        have b13 := b12.trans (b3.mono b12.size)
        go_wp2
        try rw [Exit.noGoto_ret]
        go_ret2
        exact ⟨_, q4, rfl, HO.out, HS.out, b13.trans (b4.mono b13.size)⟩
      · have f0 : ((BA [76, 111, 119, 101, 114]).toList == [90, 122, 122, 122]) = false := by decide +kernel
        have f1 : ((BA [76, 111, 119, 101, 114]).toList == [65, 110, 121]) = false := by decide +kernel
        have f2 : ((BA [76, 111, 119, 101, 114]).toList == [65, 83, 67, 73, 73]) = false := by decide +kernel
        have f3 : ((BA [76, 111, 119, 101, 114]).toList == [65, 108, 112, 104, 97]) = false := by decide +kernel
        have fT : ((BA [76, 111, 119, 101, 114]).toList == [76, 111, 119, 101, 114]) = true := beqT _
        clear hbi
        have hP : binP [76, 111, 119, 101, 114] = catP [76, 108] := by funext x; rfl
        rw [hP]
        clear hP
        generalize BA [76, 111, 119, 101, 114] = B at *
        go_enter Tryz.func28, Tryz.ntmps28
        go_wp2_with fail
        refine RE.mono ?_
        rintro e w1 ⟨rfl, b1⟩
        clear RE
        have C := category_any t [76, 108] w1 (HT.out.below b1) (by decide)
        rw [show BA [76, 108] = ⟨#[76, 108]⟩ from rfl] at C
        go_wp2_with fail
        refine C.mono ?_
        rintro e w2 ⟨v2, q2, rfl, o2, s2, b2⟩
        clear C
        have HO : Hid (Sl w2 v2 q2) := o2
        have HS : Hid (IsSet q2 (catP [76, 108])) := s2
        clear o2 s2
        go_wp2
        try rw [Exit.noGoto_ret]
        go_ret2
        exact ⟨_, q2, rfl, HO.out, HS.out, b1.trans (b2.mono b1.size)⟩
      · have f0 : ((BA [85, 112, 112, 101, 114]).toList == [90, 122, 122, 122]) = false := by decide +kernel
        have f1 : ((BA [85, 112, 112, 101, 114]).toList == [65, 110, 121]) = false := by decide +kernel
        have f2 : ((BA [85, 112, 112, 101, 114]).toList == [65, 83, 67, 73, 73]) = false := by decide +kernel
        have f3 : ((BA [85, 112, 112, 101, 114]).toList == [65, 108, 112, 104, 97]) = false := by decide +kernel
        have f4 : ((BA [85, 112, 112, 101, 114]).toList == [76, 111, 119, 101, 114]) = false := by decide +kernel
        have fT : ((BA [85, 112, 112, 101, 114]).toList == [85, 112, 112, 101, 114]) = true := beqT _
        clear hbi
        have hP : binP [85, 112, 112, 101, 114] = catP [76, 117] := by funext x; rfl
        rw [hP]
        clear hP
        generalize BA [85, 112, 112, 101, 114] = B at *
        go_enter Tryz.func28, Tryz.ntmps28
        go_wp2_with fail
        refine RE.mono ?_
        rintro e w1 ⟨rfl, b1⟩
        clear RE
        have C := category_any t [76, 117] w1 (HT.out.below b1) (by decide)
        rw [show BA [76, 117] = ⟨#[76, 117]⟩ from rfl] at C
        go_wp2_with fail
        refine C.mono ?_
        rintro e w2 ⟨v2, q2, rfl, o2, s2, b2⟩
        clear C
        have HO : Hid (Sl w2 v2 q2) := o2
        have HS : Hid (IsSet q2 (catP [76, 117])) := s2
        clear o2 s2
        go_wp2
        try rw [Exit.noGoto_ret]
        go_ret2
        exact ⟨_, q2, rfl, HO.out, HS.out, b1.trans (b2.mono b1.size)⟩
      · have f0 : ((BA [115, 112, 97, 99, 101]).toList == [90, 122, 122, 122]) = false := by decide +kernel
        have f1 : ((BA [115, 112, 97, 99, 101]).toList == [65, 110, 121]) = false := by decide +kernel
        have f2 : ((BA [115, 112, 97, 99, 101]).toList == [65, 83, 67, 73, 73]) = false := by decide +kernel
        have f3 : ((BA [115, 112, 97, 99, 101]).toList == [65, 108, 112, 104, 97]) = false := by decide +kernel
        have f4 : ((BA [115, 112, 97, 99, 101]).toList == [76, 111, 119, 101, 114]) = false := by decide +kernel
        have f5 : ((BA [115, 112, 97, 99, 101]).toList == [85, 112, 112, 101, 114]) = false := by decide +kernel
        have fT : ((BA [115, 112, 97, 99, 101]).toList == [115, 112, 97, 99, 101]) = true := beqT _
        clear hbi
        have hP : binP [115, 112, 97, 99, 101] = rng.has spaceR := by funext x; rfl
        rw [hP]
        clear hP
        generalize BA [115, 112, 97, 99, 101] = B at *
        go_enter Tryz.func28, Tryz.ntmps28
        go_wp2_with fail
        refine RE.mono ?_
        rintro e w1 ⟨rfl, b1⟩
        clear RE
        have hs1 := b1.size
        go_wp2
        try rw [Exit.noGoto_ret]
        go_ret2
        exact ⟨_, spaceR, rfl, rng.Own.sl (lit_own w1 _ _ rfl (by decide)), space_set, b1.alloc hs1 _⟩
set_option maxHeartbeats 4000000 in
set_option maxRecDepth 1000000 in
theorem set_walk (s : ByteArray) (w : World) (hs : s.size ≤ 140737488355327) (E : Env w) : Calls Tryz.prog 4 #[.string s] w fun e w' => e = .returned (.bool true) ∧ Below w.heap.size w w' := by
  have C := load_any w E
  have HE : Hid (Env w) := E
  have ST : Hid (∀ t W, Tabs W t → Calls Tryz.prog 27 #[.pointer (some ⟨t, 0, none⟩), .string s] W fun e w' => ∃ v' r, e = .returned (.tuple #[v', .int .i64 (nam.resolveV s).2.2]) ∧ rng.Own w' W.heap.size v' r ∧ IsSet r (setP (nam.resolveV s)) ∧ Below W.heap.size W w') := fun t W h => set_t t s W h hs
  have RT : Hid (∀ t W, RTabs W t → Calls Tryz.prog 28 #[.pointer (some ⟨t, 0, none⟩), .string s] W fun e w' => ∃ v' r, e = .returned (.tuple #[v', .int .i64 (nam.resolveV s).2.2]) ∧ Sl w' v' r ∧ IsSet r (setP (nam.resolveV s)) ∧ Below W.heap.size W w') := fun t W h => rset_any t s W h hs
  clear E
  generalize setP (nam.resolveV s) = P at *
  generalize (nam.resolveV s).2.2 = er at *
  have t2 : (er == er) = true := beq_self_eq_true _
  go_enter Tryz.func4, Tryz.ntmps4
  go_wp2_with fail
  refine C.mono ?_
  rintro e w1 ⟨t, rfl, ht, b1⟩
  clear C
  have C := ST.out t w1 ht
  clear ht
  go_wp2_with fail
  refine C.mono ?_
  rintro e w2 ⟨v2, r2, rfl, o2, s2, b2⟩
  clear C
  have HO2 : Hid (Sl w2 v2 r2) := rng.Own.sl o2
  have HS2 : Hid (IsSet r2 P) := s2
  have HB2 : Hid (Below w.heap.size w w2) := b1.trans (b2.mono b1.size)
  clear o2 s2 b1 b2
  have C := rload_any w2
  go_wp2_with fail
  refine C.mono ?_
  rintro e w3 ⟨u, rfl, hu, b3⟩
  clear C
  have C := RT.out u w3 hu
  clear hu
  go_wp2_with fail
  refine C.mono ?_
  rintro e w4 ⟨v4, r4, rfl, o4, s4, b4⟩
  clear C
  have D := rng.equal_s v2 v4 r2 r4 w4 ((HO2.out.below b3).below b4) o4 (rlen HS2.out) (HS2.out.eq s4 (fun _ _ => rfl))
  have HB4 : Hid (Below w.heap.size w w4) := HB2.out.trans ((b3.trans (b4.mono b3.size)).mono HB2.out.size)
  clear o4 s4 b3 b4 HO2 HB2 HS2
  go_wp2_with fail
  refine D.mono ?_
  rintro e w6 ⟨rfl, b6⟩
  clear D
  have HB6 : Hid (Below w.heap.size w w6) := HB4.out.trans (b6.mono HB4.out.size)
  have C := prp.awake_any w6 (HE.out.below HB6.out)
  clear b6 HB4
  go_wp2_with fail
  refine C.mono ?_
  rintro e w7 ⟨rfl, b7⟩
  clear C
  go_wp2
  go_ret
  exact ⟨rfl, HB6.out.trans (b7.mono HB6.out.size)⟩
end Go.Proofs.YtnjomfmdogkhgaaGreatDoor.prp
end
