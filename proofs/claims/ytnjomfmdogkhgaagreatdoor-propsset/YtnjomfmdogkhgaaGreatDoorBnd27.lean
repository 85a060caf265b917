/- Texts that the proof leans on, one behind the other. -/
import Derived.Test.YtnjomfmdogkhgaaGreatDoorBnd8
import Derived.Test.YtnjomfmdogkhgaaGreatDoorBnd21
import Derived.Test.YtnjomfmdogkhgaaGreatDoorBnd24

section
/- Sets of what is said: how many ranges they have. -/
set_option linter.unusedVariables false
set_option linter.unusedSimpArgs false
set_option linter.unusedSectionVars false
namespace Go.Proofs.YtnjomfmdogkhgaaGreatDoor.prp
open Go.Proofs.YtnjomfmdogkhgaaGreatDoor.rng (R has IsSet code CanF inP)

theorem len_le_of_sub : ∀ (l B : List Int), l.Nodup → (∀ x ∈ l, x ∈ B) → l.length ≤ B.length := by
  intro l
  induction l with
  | nil => intro B _ _; exact Nat.zero_le _
  | cons a t ih =>
    intro B hn hs
    have ha : a ∈ B := hs a (by simp)
    obtain ⟨hat, hn'⟩ := List.nodup_cons.1 hn
    have := ih (B.erase a) hn' (fun x hx => (List.mem_erase_of_ne (fun e => hat (by rw [← e]; exact hx))).2 (hs x (by simp [hx])))
    have h2 := List.length_erase_of_mem ha
    have h3 : 0 < B.length := List.length_pos_of_mem ha
    simp only [List.length_cons]
    omega
theorem can_lows : ∀ (r : List R) (m : Int), CanF m r → (∀ p ∈ r, m ≤ p.1) ∧ (r.map (·.1)).Nodup := by
  intro r
  induction r with
  | nil => intro m _; exact ⟨fun p hp => (by cases hp), List.nodup_nil⟩
  | cons q r ih =>
    intro m h
    obtain ⟨h1, h2, h3, h4⟩ := h
    obtain ⟨i1, i2⟩ := ih _ h4
    refine ⟨fun p hp => ?_, ?_⟩
    · rcases List.mem_cons.1 hp with rfl | hp
      · exact h1
      · have := i1 p hp; omega
    · rw [List.map_cons, List.nodup_cons]
      refine ⟨fun hm => ?_, i2⟩
      obtain ⟨p, hp, e⟩ := List.mem_map.1 hm
      have := i1 p hp
      omega
/-- The code point ahead of a range is in no range. -/
theorem can_ahead : ∀ (r : List R) (m : Int), 0 ≤ m → CanF m r → ∀ p ∈ r, has r p.1 = true ∧ has r (p.1 - 1) = false := by
  intro r
  induction r with
  | nil => intro m _ _ p hp; cases hp
  | cons q r ih =>
    intro m hm h p hp
    have hh := h
    obtain ⟨h1, h2, h3, h4⟩ := h
    have hlow : ∀ x, x < q.2 + 2 → has r x = false := fun x hx => by
      cases t : has r x
      · rfl
      · have := rng.can_lo h4 t; omega
    rw [rng.can_has hm hh, rng.can_has hm hh]
    rcases List.mem_cons.1 hp with rfl | hp
    · refine ⟨by rw [(rng.inP_iff p p.1).2 ⟨Int.le_refl _, h2⟩]; rfl, ?_⟩
      rw [hlow _ (by omega), Bool.or_false]
      cases t : inP p (p.1 - 1)
      · rfl
      · have := (rng.inP_iff _ _).1 t; omega
    · obtain ⟨i1, i2⟩ := ih _ (by omega) h4 p hp
      have hl := (can_lows r _ h4).1 p hp
      refine ⟨by rw [i1, Bool.or_true], ?_⟩
      rw [i2, Bool.or_false]
      cases t : inP q (p.1 - 1)
      · rfl
      · have := (rng.inP_iff _ _).1 t; omega
/-- A set that begins and ends at few places has few ranges. -/
theorem set_len {α : Type} [DecidableEq α] (F : Int → α) (c : α) (B : List Int) (r : List R) (hF : ∀ x, x ∉ B → F x = F (x - 1)) (h : IsSet r (fun x => decide (F x = c))) : r.length ≤ B.length + 1 := by
  have h1 := can_lows r 0 h.1
  have := len_le_of_sub (r.map (·.1)) (0 :: B) h1.2 (fun x hx => by
    obtain ⟨p, hp, rfl⟩ := List.mem_map.1 hx
    obtain ⟨h2, h3⟩ := can_ahead r 0 (Int.le_refl _) h.1 p hp
    by_cases hz : p.1 = 0
    · rw [hz]; simp
    · refine List.mem_cons_of_mem _ ?_
      by_cases hb : p.1 ∈ B
      · exact hb
      · exfalso
        have e := hF p.1 hb
        have c1 := rng.has_code h2
        have c2 : code (p.1 - 1) = true := by rw [rng.code_iff] at c1 ⊢; have := h1.1 p hp; omega
        have g2 := (h.2 _ c1).symm.trans h2
        have g3 := (h.2 _ c2).symm.trans h3
        simp only at g2 g3
        rw [← e, g2] at g3
        cases g3)
  simpa using this
section
variable {α : Type} [DecidableEq α]
def edgesOf (l : List (RA α)) : List Int := l.flatMap fun x => [x.1, x.2.1 + 1]
theorem lastV_edge (nn : α) (l : List (RA α)) (x : Int) (h : x ∉ edgesOf l) : lastV nn l x = lastV nn l (x - 1) := by
  unfold lastV
  induction l generalizing nn with
  | nil => rfl
  | cons a l ih =>
    unfold edgesOf at h
    rw [List.flatMap_cons, List.mem_append] at h
    have ha : x ≠ a.1 ∧ x ≠ a.2.1 + 1 := ⟨fun e => h (.inl (by simp [e])), fun e => h (.inl (by simp [e]))⟩
    rw [List.foldl_cons, List.foldl_cons]
    have e : (if a.1 ≤ x ∧ x ≤ a.2.1 then a.2.2 else nn) = (if a.1 ≤ x - 1 ∧ x - 1 ≤ a.2.1 then a.2.2 else nn) := by
      by_cases hh : a.1 ≤ x ∧ x ≤ a.2.1
      · rw [if_pos hh, if_pos (by omega)]
      · rw [if_neg hh, if_neg (by omega)]
    rw [e]
    exact ih _ (fun hm => h (.inr hm))
theorem edges_len (l : List (RA α)) : (edgesOf l).length = 2 * l.length := by
  induction l with
  | nil => rfl
  | cons a l ih => unfold edgesOf at *; rw [List.flatMap_cons, List.length_append, ih]; simp; omega
theorem lastV_set_len (nn c : α) (l : List (RA α)) (r : List R) (h : IsSet r (fun x => decide (lastV nn l x = c))) : r.length ≤ 2 * l.length + 1 := by
  have := set_len (lastV nn l) c (edgesOf l) r (fun x hx => lastV_edge nn l x hx) h
  rw [edges_len] at this
  exact this
end
end Go.Proofs.YtnjomfmdogkhgaaGreatDoor.prp
end

section
/- PropsNobody: tables that no call made tell nothing. -/
set_option linter.unusedVariables false
set_option linter.unusedSimpArgs false
namespace Go.Proofs.YtnjomfmdogkhgaaGreatDoor.prp
open Go.RowKit Go.Maps lin

theorem awake_cat : sF [67, 110] catL 65 = [76, 117] := by decide +kernel
theorem awake_fold : foldF true 223 = [115, 115] := by decide +kernel
set_option maxRecDepth 1000000 in
theorem awake_any (w : World) (E : Env w) : Calls Tryz.prog 26 #[] w fun e w' => e = .returned (.bool true) ∧ Below w.heap.size w w' := by
  have C := load_any w E
  clear E
  go_enter Tryz.func26, Tryz.ntmps26
  go_wp2_with fail
  refine C.mono ?_
  rintro e w1 ⟨t, rfl, ht, b1⟩
  clear C
  have C := category_t t 65 w1 ht
  rw [awake_cat] at C
  have HT : Hid (Tabs w1 t) := ht
  clear ht
  go_wp2_with fail
  refine C.mono ?_
  rintro e w2 ⟨rfl, b2⟩
  clear C
  have C := fold_true t 223 w2 (HT.out.below b2) (by unfold okI; decide)
  rw [awake_fold] at C
  have hq : (BA [76, 117]).toList = [76, 117] := by rw [Lib.toList_data, BA_data]
  go_wp2_with fail
  refine C.mono ?_
  rintro e w3 ⟨v, rfl, ho, b3⟩
  clear C
  have hv := ho.iv
  obtain ⟨a, c, rfl, _⟩ := id hv
  have W3b := (Below.refl w3.heap.size w3).alloc (Nat.le_refl _) (.cells #[.int .i64 115, .int .i64 115] 3)
  have hv2 : IV (w3.alloc (.cells #[.int .i64 115, .int .i64 115] 3)) (.slice (some ⟨w3.heap.size, 0, none⟩) 2 2) [115, 115] :=
    IOwn.iv (base := 0) (World.ownsRow_lit (base := 0) (e := 3) (size := 1) w3 #[.int .i64 115, .int .i64 115] 2 (Nat.zero_le _) (by unfold maxLen; omega) rfl)
  have D := iequal_any _ _ [115, 115] _ (hv.below W3b) hv2 (by decide)
  rw [show ([115, 115] : List Int).length = 2 from rfl] at D
  have HB : Hid (Below w.heap.size w (w3.alloc (.cells #[.int .i64 115, .int .i64 115] 3))) := b1.trans ((b2.trans ((b3.trans (W3b.mono b3.size)).mono b2.size)).mono b1.size)
  clear hv hv2 ho W3b b1 b2 b3
  simp only [List.length_cons, List.length_nil, Nat.zero_add, Nat.reduceAdd] at *
  go_wp2_with fail
  refine D.mono ?_
  rintro e w4 ⟨rfl, b4⟩
  clear D
  go_wp2
  go_ret
  exact ⟨rfl, HB.out.trans (b4.mono HB.out.size)⟩
set_option maxRecDepth 1000000 in
theorem set_no (v : Value) (s : ByteArray) (w : World) (h : Unmade w v) : Calls Tryz.prog 27 #[v, .string s] w fun e w' => e = .returned (.tuple #[.slice none 0 0, .int .i64 2]) ∧ w' = w := by
  have C := made_no v w h
  go_enter Tryz.func27, Tryz.ntmps27
  go_wp2_with fail
  refine C.mono ?_
  rintro e w1 ⟨rfl, hw⟩
  rw [hw]
  go_wp2
  go_ret2
  exact ⟨rfl, rfl⟩
set_option maxHeartbeats 4000000 in
set_option maxRecDepth 1000000 in
theorem nobody_walk (r : Int) (s : ByteArray) (w : World) (hs : s.size ≤ 140737488355327) (E : Env w) : Calls Tryz.prog 8 #[.int .i64 r, .string s] w fun e w' => e = .returned (.bool true) ∧ Below w.heap.size w w' := by
  have HE : Hid (Env w) := E
  clear E
  go_enter Tryz.func8, Tryz.ntmps8
  go_wp2
  have HB : Hid (Below w.heap.size w ((w.alloc (.cells #[.pointer none, .slice none 0 0, .pointer none, .slice none 0 0, .pointer none, .slice none 0 0, .pointer none, .slice none 0 0, .pointer none, .slice none 0 0, .map none, .map none, .map none, .map none] 57)).alloc (.cells #[.pointer none, .pointer (some ⟨w.heap.size, 0, none⟩)] 23))) := ((Below.refl _ w).alloc (Nat.le_refl _) _).alloc (by simp) _
  have nb0 : ((w.alloc (.cells #[.pointer none, .slice none 0 0, .pointer none, .slice none 0 0, .pointer none, .slice none 0 0, .pointer none, .slice none 0 0, .pointer none, .slice none 0 0, .map none, .map none, .map none, .map none] 57)).alloc (.cells #[.pointer none, .pointer (some ⟨w.heap.size, 0, none⟩)] 23)).heap[w.heap.size]? = some (.cells #[.pointer none, .slice none 0 0, .pointer none, .slice none 0 0, .pointer none, .slice none 0 0, .pointer none, .slice none 0 0, .pointer none, .slice none 0 0, .map none, .map none, .map none, .map none] 57 (0, 0)) := by
    rw [Below.heap_alloc _ _ _ (by simp)]; exact World.alloc_heap_new _ _
  have nb1 : ((w.alloc (.cells #[.pointer none, .slice none 0 0, .pointer none, .slice none 0 0, .pointer none, .slice none 0 0, .pointer none, .slice none 0 0, .pointer none, .slice none 0 0, .map none, .map none, .map none, .map none] 57)).alloc (.cells #[.pointer none, .pointer (some ⟨w.heap.size, 0, none⟩)] 23)).heap[w.heap.size + 1]? = some (.cells #[.pointer none, .pointer (some ⟨w.heap.size, 0, none⟩)] 23 (0, 0)) := heap_alloc2_new _ _ _
  generalize (w.alloc (.cells #[.pointer none, .slice none 0 0, .pointer none, .slice none 0 0, .pointer none, .slice none 0 0, .pointer none, .slice none 0 0, .pointer none, .slice none 0 0, .map none, .map none, .map none, .map none] 57)).alloc (.cells #[.pointer none, .pointer (some ⟨w.heap.size, 0, none⟩)] 23) = W at *
  have d0 := cell_of_row W (w.heap.size + 1) 0 _ _ _ nb1
  have d1 := cell_of_row W (w.heap.size + 1) 1 _ _ _ nb1
  have d2 := cell_of_row W w.heap.size 0 _ _ _ nb0
  simp at d0 d1 d2
  have U1 : Hid (Unmade W (.pointer none)) := .inl rfl
  have U2 : Hid (Unmade W (.pointer (some ⟨w.heap.size, 0, none⟩))) := .inr ⟨_, rfl, d2⟩
  clear nb0 nb1 d2
  refine wp_loop_rounds 3 ?_
  rw [rounds_succ]
  have C := set_no (.pointer none) s W U1.out
  go_wp2_with fail
  refine C.mono ?_
  rintro e w1 ⟨rfl, hw⟩
  rw [hw]
  clear C hw w1
  have C := category_no (.pointer none) r W U1.out
  go_wp2_with fail
  refine C.mono ?_
  rintro e w1 ⟨rfl, hw⟩
  rw [hw]
  clear C hw w1
  have C := combining_no (.pointer none) r W U1.out
  go_wp2_with fail
  refine C.mono ?_
  rintro e w1 ⟨rfl, hw⟩
  rw [hw]
  clear C hw w1
  have C := script_no (.pointer none) r W U1.out
  go_wp2_with fail
  refine C.mono ?_
  rintro e w1 ⟨rfl, hw⟩
  rw [hw]
  clear C hw w1
  have C := cluster_no (.pointer none) r W U1.out
  go_wp2_with fail
  refine C.mono ?_
  rintro e w1 ⟨rfl, hw⟩
  rw [hw]
  clear C hw w1
  have C := word_no (.pointer none) r W U1.out
  go_wp2_with fail
  refine C.mono ?_
  rintro e w1 ⟨rfl, hw⟩
  rw [hw]
  clear C hw w1
  have C := parts_no (.pointer none) r W U1.out
  go_wp2_with fail
  refine C.mono ?_
  rintro e w1 ⟨rfl, hw⟩
  rw [hw]
  clear C hw w1
  have C := fold_no (.pointer none) r true W U1.out
  go_wp2_with fail
  refine C.mono ?_
  rintro e w1 ⟨rfl, hw⟩
  rw [hw]
  clear C hw w1
  have C := fold_no (.pointer none) r false W U1.out
  go_wp2_with fail
  refine C.mono ?_
  rintro e w1 ⟨rfl, hw⟩
  rw [hw]
  clear C hw w1
  go_wp2
  rw [rounds_succ]
  have C := set_no (.pointer (some ⟨w.heap.size, 0, none⟩)) s W U2.out
  go_wp2_with fail
  refine C.mono ?_
  rintro e w1 ⟨rfl, hw⟩
  rw [hw]
  clear C hw w1
  have C := category_no (.pointer (some ⟨w.heap.size, 0, none⟩)) r W U2.out
  go_wp2_with fail
  refine C.mono ?_
  rintro e w1 ⟨rfl, hw⟩
  rw [hw]
  clear C hw w1
  have C := combining_no (.pointer (some ⟨w.heap.size, 0, none⟩)) r W U2.out
  go_wp2_with fail
  refine C.mono ?_
  rintro e w1 ⟨rfl, hw⟩
  rw [hw]
  clear C hw w1
  have C := script_no (.pointer (some ⟨w.heap.size, 0, none⟩)) r W U2.out
  go_wp2_with fail
  refine C.mono ?_
  rintro e w1 ⟨rfl, hw⟩
  rw [hw]
  clear C hw w1
  have C := cluster_no (.pointer (some ⟨w.heap.size, 0, none⟩)) r W U2.out
  go_wp2_with fail
  refine C.mono ?_
  rintro e w1 ⟨rfl, hw⟩
  rw [hw]
  clear C hw w1
  have C := word_no (.pointer (some ⟨w.heap.size, 0, none⟩)) r W U2.out
  go_wp2_with fail
  refine C.mono ?_
  rintro e w1 ⟨rfl, hw⟩
  rw [hw]
  clear C hw w1
  have C := parts_no (.pointer (some ⟨w.heap.size, 0, none⟩)) r W U2.out
  go_wp2_with fail
  refine C.mono ?_
  rintro e w1 ⟨rfl, hw⟩
  rw [hw]
  clear C hw w1
  have C := fold_no (.pointer (some ⟨w.heap.size, 0, none⟩)) r true W U2.out
  go_wp2_with fail
  refine C.mono ?_
  rintro e w1 ⟨rfl, hw⟩
  rw [hw]
  clear C hw w1
  have C := fold_no (.pointer (some ⟨w.heap.size, 0, none⟩)) r false W U2.out
  go_wp2_with fail
  refine C.mono ?_
  rintro e w1 ⟨rfl, hw⟩
  rw [hw]
  clear C hw w1
  go_wp2
  rw [rounds_succ]
  have C := awake_any W (HE.out.below HB.out)
  go_wp2_with fail
  refine C.mono ?_
  rintro e w1 ⟨rfl, hb⟩
  clear C
  go_wp2
  go_ret
  exact ⟨rfl, HB.out.trans (hb.mono HB.out.size)⟩
end Go.Proofs.YtnjomfmdogkhgaaGreatDoor.prp
end
