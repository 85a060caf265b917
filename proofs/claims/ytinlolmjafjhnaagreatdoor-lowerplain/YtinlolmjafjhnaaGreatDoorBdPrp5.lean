/- Texts that the proof leans on, one behind the other. -/
import Derived.Test.YtinlolmjafjhnaaGreatDoorBdPrp3
import Derived.Test.YtinlolmjafjhnaaGreatDoorBdTri5

section
/- props.tableOf and of, of values of type int. -/
set_option linter.unusedVariables false
set_option linter.unusedSimpArgs false
namespace Go.Proofs.YtinlolmjafjhnaaGreatDoor.prp.num
open Go.RowKit Go.Maps lin Go.Proofs.YtinlolmjafjhnaaGreatDoor.prp
open Go.Proofs.YtinlolmjafjhnaaGreatDoor.nam (Mp upd KeyE)
open Go.Proofs.YtinlolmjafjhnaaGreatDoor.tri (E last use at_ flat EV)
open Go.Proofs.YtinlolmjafjhnaaGreatDoor.tri.num (TrieIs)


/-- Tables in the making: values, entries, and the map of the values' places. -/
structure TS (w wr : World) (v7 v9 : Value) (vals ml : List (Int)) (ents : List E) (n : Nat) : Prop where
 vr : wr.ownsRow w.heap.size 3 1 v7 vals.length (vals.map fun x => (.int .i64 x))
 er : wr.ownsRow w.heap.size 95 3 v9 ents.length (flat ents)
 mp : Mp Tryz.prog 3 ekI okI wr (w.heap.size + 1 + 1) n (places ml)
 rb : wr.heap[w.heap.size]? = some (.cells #[.pointer none, .slice none 0 0] 39 (0, 0))
 bel : Below w.heap.size w wr
section
variable {w A B : World} {v7 v9 : Value} {vals ml : List (Int)} {ents : List E} {n : Nat}
theorem TS.below (h : TS w A v7 v9 vals ml ents n) (hb : Below A.heap.size A B) : TS w B v7 v9 vals ml ents n :=
 ⟨own_below h.vr hb, own_below h.er hb, h.mp.below hb, (hb.block _ (Array.getElem?_eq_some_iff.1 h.rb).1).trans h.rb, h.bel.trans (hb.mono h.bel.size)⟩
theorem mp_map {f : Int → Option Value} {b : Nat} (h : Mp Tryz.prog 3 ekI okI A b n f) : ∃ es cl, A.heap[b]? = some (.map es cl) := by obtain ⟨D, ⟨es, cl, hb, _⟩, _⟩ := h; exact ⟨es, cl, hb⟩
theorem TS.put (h : TS w A v7 v9 vals ml ents n) (hn : n < maxLen) {x : Int} (hx : okI x) (hm : x ∉ ml) :
  ∃ B, (Instr.mapUpdate 101 (.map (some (w.heap.size + 1 + 1))) (.int .i64 x) (.int .i64 (ml.length : Int))).run Tryz.prog A = .ok () B ∧ TS w B v7 v9 vals (ml ++ [x]) ents (n + 1) ∧ Turns (fun k => k = w.heap.size + 1 + 1) A B := by
 obtain ⟨es, cl, hmap⟩ := mp_map h.mp
 obtain ⟨B, hrun, hm', ht⟩ := h.mp.put keyI (t := 101) (e := 3) Tryz.underlying101 hn hx (.int .i64 (ml.length : Int))
 have t : Turns (fun k => k = w.heap.size + 1 + 1) A B := .of_grown ht.grown (fun k e => by cases e; rfl)
 rw [places_new ml x hm] at hm'
 have hs := h.bel.size
 refine ⟨B, hrun, ⟨t.own h.vr (fun k e d => ?_), t.own h.er (fun k e d => ?_), hm', (t.block _ (Array.getElem?_eq_some_iff.1 h.rb).1 (by omega)).trans h.rb, h.bel.trans (t.below hs (fun k d => by omega))⟩, t⟩
 ·obtain ⟨cur, hc⟩ := own_typed h.vr k e
  subst d; rw [hmap] at hc; cases hc
 ·obtain ⟨cur, hc⟩ := own_typed h.er k e
  subst d; rw [hmap] at hc; cases hc
theorem TS.app7 (h : TS w A v7 v9 vals ml ents n) {v' : Value} {x : Int} (hg : A.grownBy B v7.ownBlock) (ho : B.ownsRow w.heap.size 3 1 v' (vals ++ [x]).length ((vals ++ [x]).map fun x => (.int .i64 x))) : TS w B v' v9 (vals ++ [x]) ml ents n := by
 have t : Turns (fun k => v7.ownBlock = some k) A B := .of_grown hg (fun k e => e)
 obtain ⟨es, cl, hmap⟩ := mp_map h.mp
 refine ⟨ho, t.own h.er (fun k e d => ?_), h.mp.turns t (fun d => ?_), (t.block _ (Array.getElem?_eq_some_iff.1 h.rb).1 (fun d => ?_)).trans h.rb, h.bel.trans (t.below h.bel.size (fun k d => (h.vr.lt k d).1))⟩
 ·obtain ⟨cur, hc⟩ := own_typed h.vr k d
  obtain ⟨cur2, hc2⟩ := own_typed h.er k e
  rw [hc] at hc2; cases hc2
 ·obtain ⟨cur, hc⟩ := own_typed h.vr _ d
  rw [hmap] at hc; cases hc
 ·obtain ⟨cur, hc⟩ := own_typed h.vr _ d
  rw [h.rb] at hc; cases hc
theorem TS.app9 (h : TS w A v7 v9 vals ml ents n) {v' : Value} {x : E} (hg : A.grownBy B v9.ownBlock) (ho : B.ownsRow w.heap.size 95 3 v' (ents ++ [x]).length (flat (ents ++ [x]))) : TS w B v7 v' vals ml (ents ++ [x]) n := by
 have t : Turns (fun k => v9.ownBlock = some k) A B := .of_grown hg (fun k e => e)
 obtain ⟨es, cl, hmap⟩ := mp_map h.mp
 refine ⟨t.own h.vr (fun k e d => ?_), ho, h.mp.turns t (fun d => ?_), (t.block _ (Array.getElem?_eq_some_iff.1 h.rb).1 (fun d => ?_)).trans h.rb, h.bel.trans (t.below h.bel.size (fun k d => (h.er.lt k d).1))⟩
 ·obtain ⟨cur, hc⟩ := own_typed h.er k d
  obtain ⟨cur2, hc2⟩ := own_typed h.vr k e
  rw [hc] at hc2; cases hc2
 ·obtain ⟨cur, hc⟩ := own_typed h.er _ d
  rw [hmap] at hc; cases hc
 ·obtain ⟨cur, hc⟩ := own_typed h.er _ d
  rw [h.rb] at hc; cases hc
end
/-- What is read of a record. -/
def rd (x : RL) : Int := (Lib.atoi (x.2.2.getD 0 [])).getD 0
def tfitB (x : RL) : Bool := decide (0 ≤ x.1) && decide (x.1 ≤ x.2.1) && decide (x.2.1 ≤ 1114111) && decide (1 ≤ x.2.2.length) && decide ((x.2.2.getD 0 []).length ≤ 18) && (Lib.atoi (x.2.2.getD 0 [])).isSome && decide (0 ≤ rd x) && decide (rd x ≤ 1000)
theorem tfit_spec {x : RL} (h : tfitB x = true) : 0 ≤ x.1 ∧ x.1 ≤ x.2.1 ∧ x.2.1 ≤ 1114111 ∧ 1 ≤ x.2.2.length ∧ okI (rd x) := by
 unfold tfitB at h
 simp only [Bool.and_eq_true, decide_eq_true_eq] at h
 obtain ⟨⟨⟨⟨⟨⟨⟨h1, h2⟩, h3⟩, h4⟩, h5⟩, h6⟩, h7⟩, h8⟩ := h
 exact ⟨h1, h2, h3, h4, by unfold okI; omega⟩
set_option maxRecDepth 1000000 in
theorem read_any (x : RL) (g o c n3 : Nat) (w : World) (h : w.cell? ⟨g, o, none⟩ = some (.string (BA (x.2.2.getD 0 [])))) (hn : 0 < n3) (hx : tfitB x = true) :
  Calls Tryz.prog 36 #[.slice (some ⟨g, o, none⟩) n3 c] w fun e w' => e = .returned (.int .i64 (rd x)) ∧ Below w.heap.size w w' := by
 have hn' : (0 : Int) < (n3 : Int) := by omega
 unfold tfitB at hx
 simp only [Bool.and_eq_true, decide_eq_true_eq] at hx
 obtain ⟨⟨⟨⟨⟨⟨⟨h1, h2⟩, h3⟩, h4⟩, h5⟩, h6⟩, h7⟩, h8⟩ := hx
 obtain ⟨m, hm⟩ := Option.isSome_iff_exists.1 h6
 have AT := Tryz.strconv_Atoi (BA (x.2.2.getD 0 [])) m (by rw [BA_size]; exact h5) (by rw [BA_data]; exact hm) w
 have e1 : rd x = m := by unfold rd; rw [hm]; rfl
 rw [e1]
 generalize BA (x.2.2.getD 0 []) = B at *
 clear h1 h2 h3 h4 h5 h6 h7 h8 hm e1
 go_enter Tryz.func36, Tryz.ntmps36
 go_wp2_with fail
 refine AT.mono ?_
 rintro e w1 ⟨rfl, t, rfl⟩
 have HB : Hid (Below w.heap.size w (Lib.bytesWorld w 5 t)) := ⟨rfl, rfl, rfl, by rw [Lib.bytesWorld_size]; omega, fun k hk => Lib.bytesWorld_at_old w 5 t k hk⟩
 generalize Lib.bytesWorld w 5 t = w1 at *
 go_wp2
 go_ret
 exact ⟨rfl, HB.out⟩

/-- A table in memory: of each code point r it tells F r. -/
structure TabIs (w : World) (tb vb : Nat) (vals : List (Int)) (s : List E) (F : Int → Int) : Prop where
 tr : TrieIs w (fun i => vals.getD i.toNat 0) tb s
 ris : tri.Ris (vals.length : Int) 0 s
 vs : ∀ (i : Nat) v, vals[i]? = some v → w.cell? ⟨vb, i, none⟩ = some (.int .i64 v)
 tell : ∀ r, 0 ≤ r → r ≤ 1114111 → ∃ i : Nat, at_ s r = some (i : Int) ∧ vals[i]? = some (F r)
 head : vals[0]? = some (F (-1))
 out : ∀ r, r < 0 ∨ 1114111 < r → F r = F (-1)
theorem TabIs.below {w w' : World} {tb vb : Nat} {vals : List (Int)} {s : List E} {F : Int → Int} (h : TabIs w tb vb vals s F) (hb : Below w.heap.size w w') : TabIs w' tb vb vals s F :=
 ⟨h.tr.below hb, h.ris, fun i v hi => (hb.cell (World.block_lt_of_cell? w _ (h.vs i v hi))).trans (h.vs i v hi), h.tell, h.head, h.out⟩
theorem infoTab : (Tryz.prog.info? 39).map (·.size) = some 2 := by kernel_rfl
theorem lastV_out (nn : Int) (l : List (RA (Int))) (r : Int) (h : ∀ x ∈ l, 0 ≤ x.1 ∧ x.1 ≤ x.2.1 ∧ x.2.1 ≤ 1114111) (hr : r < 0 ∨ 1114111 < r) : lastV nn l r = nn := by
 unfold lastV
 induction l with
 | nil => rfl
 | cons x l ih =>
  have := h x (by simp)
  rw [List.foldl_cons, if_neg (by omega)]
  exact ih (fun y hy => h y (by simp [hy]))

theorem trie_turns {A A' : World} {B : Nat} {p : Option Addr} {V : Int → Int} {tb : Nat} {s : List E} (h : TrieIs A V tb s) (t : Turns (fun k => k = B) A A') (hB : A.cell? ⟨B, 0, none⟩ = some (.pointer p)) : TrieIs A' V tb s := by
 have ne : ∀ b off v, A.cell? ⟨b, off, none⟩ = some v → A.cell? ⟨b, 0, none⟩ ≠ some (.pointer p) → A'.cell? ⟨b, off, none⟩ = some v := fun b off v h1 h2 =>
  (World.cell?_of_block (a := ⟨b, off, none⟩) (t.block b (World.block_lt_of_cell? A _ h1) (fun e => h2 (by rw [show b = B from e]; exact hB)))).trans h1
 obtain ⟨⟨ra, rc, h1, h2⟩, h3⟩ := h
 refine ⟨⟨ra, rc, ne _ _ _ h1 (by rw [h1]; intro e; cases e), ?_⟩, fun h0 => ?_⟩
 ·rcases h2 with h2 | ⟨b, rfl, h2⟩
  ·exact .inl h2
  ·rcases Nat.eq_zero_or_pos s.length with hs | hs
   ·exact .inl (List.eq_nil_of_length_eq_zero hs)
   ·obtain ⟨c0, _⟩ := h2 0 s[0] (List.getElem?_eq_getElem hs)
    rw [Nat.zero_mul] at c0
    have nb : A.cell? ⟨b, 0, none⟩ ≠ some (.pointer p) := by rw [c0]; intro e; cases e
    exact .inr ⟨b, rfl, fun i q hi => ⟨ne _ _ _ (h2 i q hi).1 nb, ne _ _ _ (h2 i q hi).2.1 nb, ne _ _ _ (h2 i q hi).2.2 nb⟩⟩
 ·obtain ⟨sb, h4, h5⟩ := h3 h0
  exact ⟨sb, ne _ _ _ h4 (by rw [h1]; intro e; cases e), fun j hj => ne _ _ _ (h5 j hj) (by rw [h5 0 (by omega)]; intro e; cases e)⟩
theorem row2_set {w : World} {g : Nat} {t : TypeId} {a b : Value} (h : w.heap[g]? = some (.cells #[a, b] t)) (x y : Value) :
  ((w.setCell ⟨g, 0, none⟩ x).setCell ⟨g, 1, none⟩ y).heap[g]? = some (.cells #[x, y] t) := by
 have h1 := heap_setCell_same w g 0 _ t x h
 have h2 := heap_setCell_same _ g 1 _ t y h1
 simpa using h2
theorem turns2 (w : World) (g : Nat) (x y : Value) : Turns (fun k => k = g) w ((w.setCell ⟨g, 0, none⟩ x).setCell ⟨g, 1, none⟩ y) :=
 ⟨rfl, rfl, rfl, by simp, fun k hk hd => by rw [heap_setCell_other _ _ _ _ (show k ≠ g from hd), heap_setCell_other _ _ _ _ (show k ≠ g from hd)]⟩

def trip (x : RL) : RA (Int) := (x.1, x.2.1, rd x)
set_option maxHeartbeats 4000000 in
set_option maxRecDepth 1000000 in
theorem table_any (v : Value) (l : List RL) (nn : Int) (w : World) (h : View w v (l.map recOf)) (h0 : 0 < l.length) (hn : l.length ≤ 1000) (hf : ∀ x ∈ l, tfitB x = true) (hk0 : okI nn) :
  Calls Tryz.prog 34 #[v, (.int .i64 nn), .func (.func 36) #[] #[]] w fun e w' => ∃ tb vb vc vals s, e = .returned (.agg #[.pointer (some ⟨tb, 0, none⟩), .slice (some ⟨vb, 0, none⟩) vals.length vc]) ∧ vals = (tall nn (l.map trip)).1 ∧ TabIs w' tb vb vals s (lastV nn (l.map trip)) ∧ Below w.heap.size w w' := by
 obtain ⟨rb, ro, rc, rfl, hrec⟩ := view_recs h h0
 have HREC : Hid (∀ (i : Nat) (r : RL), l[i]? = some r → ∃ g o2 c2, RecM w rb (ro + i * 3) r g o2 c2) := hrec
 have HFT : Hid (∀ (i : Nat) (r : RL), l[i]? = some r → tfitB r = true) := fun i r hi => hf r (List.mem_of_getElem? hi)
 have hfit : ∀ x ∈ l.map trip, 0 ≤ x.1 ∧ x.1 ≤ x.2.1 ∧ x.2.1 ≤ 1114111 := fun x hx => by
  obtain ⟨y, hy, rfl⟩ := List.mem_map.1 hx
  have := tfit_spec (hf y hy)
  exact ⟨this.1, this.2.1, this.2.2.1⟩
 have HINV : Hid (∀ k, k ≤ l.length → TInv nn (lastV nn ((l.map trip).take k)) (k + 1) (tall nn ((l.map trip).take k))) := fun k hk => tall_take nn _ hfit k (by rw [List.length_map]; exact hk)
 have HOUT : Hid (∀ r, r < 0 ∨ 1114111 < r → lastV nn (l.map trip) r = nn) := fun r hr => lastV_out nn _ r hfit hr
 have HNX : Hid (∀ (i : Nat) (r : RL), l[i]? = some r → tall nn ((l.map trip).take (i + 1)) = tstep (tall nn ((l.map trip).take i)) (trip r)) := fun i r hi => by rw [List.take_add_one, List.getElem?_map, hi]; exact tall_snoc _ _ _
 clear h hrec hf hfit
 obtain ⟨i0, hi, hz0, hz1, hz2⟩ := rng.info_parts infoInt
 obtain ⟨j0, gi, gz0, gz1, gz2⟩ := rng.info_parts tri.infoEntry
 have hmm := @run_makeMap Tryz.prog
 go_enter Tryz.func34, Tryz.ntmps34
 go_wp2
 have T0 : TS w (((w.alloc (.cells #[.pointer none, .slice none 0 0] 39)).alloc (.cells #[(.int .i64 nn)] 3)).alloc (.map #[] 0)) (.slice (some ⟨w.heap.size + 1, 0, none⟩) 1 1) (.slice none 0 0) [nn] [] [] 0 := by
  refine ⟨?_, World.ownsRow_nil _ _ _ _, ?_, ?_, ?_⟩
  ·have := World.ownsRow_lit (base := w.heap.size) (e := 3) (size := 1) (w.alloc (.cells #[.pointer none, .slice none 0 0] 39)) #[(.int .i64 nn)] 1 (by simp) (by unfold maxLen; omega) rfl
   rw [World.size_alloc] at this
   exact this.alloc _
  ·have := Mp.made (P := Tryz.prog) (k := 3) (ek := ekI) (ok := okI) ((w.alloc (.cells #[.pointer none, .slice none 0 0] 39)).alloc (.cells #[(.int .i64 nn)] 3))
   rw [World.size_alloc, World.size_alloc] at this
   have e : (fun _ => none : Int → Option Value) = places [] := by funext x; simp [places]
   rw [e] at this
   exact this
  ·rw [Below.heap_alloc _ _ _ (by simp; omega), Below.heap_alloc _ _ _ (by simp), heap_alloc_new]
  ·exact (((Below.refl _ w).alloc (Nat.le_refl _) _).alloc (by simp) _).alloc (by simp; omega) _
 generalize ((w.alloc (.cells #[.pointer none, .slice none 0 0] 39)).alloc (.cells #[(.int .i64 nn)] 3)).alloc (.map #[] 0) = W2 at *
 obtain ⟨W3, hrun, T1, _⟩ := T0.put (by unfold maxLen; omega) hk0 (by simp)
 rw [show ((([] : List (Int)).length : Nat) : Int) = 0 from rfl] at hrun
 have hW3 : w.heap.size ≤ W3.heap.size := T1.bel.size
 have T2 : Hid (TS w (W3.alloc (.cells #[.int .i64 0, .int .i64 1114111, .int .i64 0] 95)) (.slice (some ⟨w.heap.size + 1, 0, none⟩) 1 1) (.slice (some ⟨W3.heap.size, 0, none⟩) 1 1) (tall nn ((l.map trip).take 0)).1 (tall nn ((l.map trip).take 0)).1 (tall nn ((l.map trip).take 0)).2 1) := by
  have := T1.below ((Below.refl _ W3).alloc (Nat.le_refl _) (.cells #[.int .i64 0, .int .i64 1114111, .int .i64 0] 95))
  exact ⟨this.vr, World.ownsRow_lit (base := w.heap.size) (e := 95) (size := 3) W3 #[.int .i64 0, .int .i64 1114111, .int .i64 0] 1 hW3 (by unfold maxLen; omega) rfl, this.mp, this.rb, this.bel⟩
 clear T0 T1 hmm
 rw [hrun]
 go_wp2
 clear hrun
 generalize W3.alloc (.cells #[.int .i64 0, .int .i64 1114111, .int .i64 0] 95) = W4 at *
 clear hW3
 go_loopw [24, 7, 9] (fun i u7 u9 wr => ∃ k : Nat, k ≤ l.length ∧ i = .int .i64 k ∧ Hid (TS w wr u7 u9 (tall nn ((l.map trip).take k)).1 (tall nn ((l.map trip).take k)).1 (tall nn ((l.map trip).take k)).2 (k + 1))) (fun i _ _ _ => l.length - (RowKit.intOf i).toNat)
 case atStart => exact ⟨0, Nat.zero_le _, rfl, T2⟩
 case round =>
  clear T2
  obtain ⟨k, hk, rfl, HT⟩ := hrel
  have hinv := HINV.out k hk
  have hvl := hinv.len
  have hel := Nat.le_of_eq hinv.ents
  by_cases hlt : k < l.length
  ·have hlt' : (k : Int) < (l.length : Int) := by omega
   obtain ⟨x, hx⟩ : ∃ x, l[k]? = some x := ⟨_, List.getElem?_eq_getElem hlt⟩
   have HNEXT := HNX.out k x hx
   have hft := HFT.out k x hx
   obtain ⟨f1, f2, f3, f4, f5⟩ := tfit_spec hft
   obtain ⟨fg, fo, fc, hrm0⟩ := HREC.out k x hx
   have hrm := hrm0.below HT.out.bel
   obtain ⟨f, hfx⟩ : ∃ f, x.2.2[0]? = some f := ⟨_, List.getElem?_eq_getElem (by omega)⟩
   have hf0 : x.2.2.getD 0 [] = f := by rw [List.getD_eq_getElem?_getD, hfx]; rfl
   have q0 := hrm.lo
   have q1 := hrm.hi
   have q2 := hrm.fv
   have q3 := hrm.fs 0 f hfx
   rw [Nat.add_zero] at q3
   have q3' : wr.cell? ⟨fg, fo, none⟩ = some (.string (BA (x.2.2.getD 0 []))) := by rw [hf0]; exact q3
   have hfgl : fg < wr.heap.size := World.block_lt_of_cell? wr ⟨fg, fo, none⟩ q3
   have HRD : Hid (∀ W : World, W.cell? ⟨fg, fo, none⟩ = some (.string (BA (x.2.2.getD 0 []))) → Calls Tryz.prog 36 #[.slice (some ⟨fg, fo, none⟩) x.2.2.length fc] W fun e w' => e = .returned (.int .i64 (rd x)) ∧ Below W.heap.size W w') := fun W hW => read_any x fg fo fc _ W hW f4 hft
   have HNE : Hid (tall nn ((l.map trip).take (k + 1)) = tstep (tall nn ((l.map trip).take k)) (trip x)) := HNEXT
   have f4' : (1 : Int) ≤ (x.2.2.length : Int) := by omega
   clear HNEXT hft hx hfx hrm hrm0 hinv hf0 q3
   generalize tall nn ((l.map trip).take k) = acc at *
   obtain ⟨acc', hacc⟩ : ∃ a, tall nn ((l.map trip).take (k + 1)) = a := ⟨_, rfl⟩
   rw [hacc] at HNE
   have HACC : Hid (tall nn ((l.map trip).take (k + 1)) = acc') := hacc
   clear hacc
   obtain ⟨vals, ents⟩ := acc
   simp only at HT hvl hel
   have HM1 : Hid (rd x ∈ vals → acc' = (vals, ents ++ [(x.1, x.2.1, idx vals (rd x))])) := fun h => HNE.out.trans (tstep_mem (vals, ents) (trip x) h)
   have HM2 : Hid (rd x ∉ vals → acc' = (vals ++ [rd x], ents ++ [(x.1, x.2.1, (vals.length : Int))])) := fun h => HNE.out.trans (tstep_new (vals, ents) (trip x) h)
   clear HNE
   generalize x.2.2.getD 0 [] = fb at *
   generalize hL3 : x.2.2.length = n3 at *
   generalize rd x = vx at *
   obtain ⟨lo, hi', fs⟩ := x
   simp only at *
   have HV7 : Hid (∀ k, u7.ownBlock = some k → k < wr.heap.size) := fun k e => (HT.out.vr.lt k e).2
   have hwm : w.heap.size + 1 + 1 < wr.heap.size := HT.out.mp.lt
   have W1b := (Below.refl wr.heap.size wr).alloc (Nat.le_refl _) (.cells #[.int .i64 lo, .int .i64 hi', .slice (some ⟨fg, fo, none⟩) n3 fc] 98)
   have nb1 : (wr.alloc (.cells #[.int .i64 lo, .int .i64 hi', .slice (some ⟨fg, fo, none⟩) n3 fc] 98)).heap[wr.heap.size]? = some (.cells #[.int .i64 lo, .int .i64 hi', .slice (some ⟨fg, fo, none⟩) n3 fc] 98 (0, 0)) := World.alloc_heap_new _ _
   have CO := HRD.out (wr.alloc (.cells #[.int .i64 lo, .int .i64 hi', .slice (some ⟨fg, fo, none⟩) n3 fc] 98)) ((W1b.cell (p := ⟨fg, fo, none⟩) hfgl).trans q3')
   have T1 := HT.out.below W1b
   clear HT HRD
   go_wp2_with fail
   refine CO.mono ?_
   rintro e w2 ⟨rfl, hb2⟩
   clear CO
   have T2 := T1.below hb2
   have nb2 : w2.heap[wr.heap.size]? = some (.cells #[.int .i64 lo, .int .i64 hi', .slice (some ⟨fg, fo, none⟩) n3 fc] 98 (0, 0)) := (hb2.block _ (Array.getElem?_eq_some_iff.1 nb1).1).trans nb1
   clear T1 W1b nb1 q0 q1 q2 q3' hb2
   have hlk := T2.mp.look keyI (t := 101) (e := 3) Tryz.underlying101 (z := .int .i64 0) (by kernel_rfl) f5
   generalize wr.heap.size = R at *
   obtain ⟨va, vc, rfl⟩ := own_slice T2.vr
   obtain ⟨ea, ec, rfl⟩ := own_slice T2.er
   have hR2 : R < w2.heap.size := (Array.getElem?_eq_some_iff.1 nb2).1
   by_cases hm : vx ∈ vals
   ·have hp := places_mem vals vx hm
    rw [hp] at hlk
    simp only [Option.getD_some, Option.isSome_some, ekI] at hlk
    have HN2 : Hid (acc' = (vals, ents ++ [(lo, hi', idx vals vx)])) := HM1.out hm
    clear HM1 HM2 hp hm
    generalize idx vals vx = pl at *
    have c0 := cell_of_row w2 R 0 _ _ _ nb2
    have c1 := cell_of_row w2 R 1 _ _ _ nb2
    simp at c0 c1
    have HE : Hid (w2.ownsRow w.heap.size 95 3 (.slice ea ents.length ec) ents.length (flat ents)) := T2.er
    have HT2 : Hid (TS w w2 (.slice va vals.length vc) (.slice ea ents.length ec) vals vals ents (k + 1)) := T2
    clear T2 nb2
    generalize hvn : vals.length = vn at *
    generalize hen : ents.length = en at *
    go_wp2_with (at_builtin; refine wpList_append_own _ rfl _ _ 96 rfl w.heap.size 95 j0 (.agg #[.int .i64 0, .int .i64 0, .int .i64 0]) 3 24 Tryz.underlying96 gi gz0 gz1 gz2 rfl (by decide) _ _ _ rfl (HE.out.alloc _) ⟨w2.heap.size, 0, none⟩ 1 1 [.int .i64 lo, .int .i64 hi', .int .i64 pl] rfl rfl ?c1 ?c2 ?c3 ?c4 ?c5 ?_)
    case c1 => exact tri.one_new w2 _ _ _ _
    case c2 => intro u hu; simp at hu; rcases hu with rfl | rfl | rfl <;> rfl
    case c3 => unfold maxLen; omega
    case c4 => omega
    case c5 => simp; omega
    ·intro v' w4 hown4 hgrow _
     have T3 : Hid (∃ n, n ≤ k + 1 + 1 ∧ TS w w4 (.slice va vn vc) v' acc'.1 acc'.1 acc'.2 n) := by
      refine ⟨k + 1, by omega, ?_⟩
      rw [HN2.out]
      refine (HT2.out.below ((Below.refl _ w2).alloc (Nat.le_refl _) _)).app9 hgrow ?_
      rw [tri.flat_append, tri.flat_three, List.length_append, hen]; exact hown4
     clear hown4 hgrow HE HT2
     go_wp2
     go_roundw
     case rel => obtain ⟨n, hn', T⟩ := T3.out; exact ⟨k + 1, by omega, by go_num, by rw [HACC.out]; exact ⟨T.vr, T.er, T.mp.mono hn', T.rb, T.bel⟩⟩
     case measure => simp [RowKit.intOf]; omega
   ·have hp := places_none vals vx hm
    rw [hp] at hlk
    simp only [Option.getD_none, Option.isSome_none, ekI] at hlk
    have HN2 : Hid (acc' = (vals ++ [vx], ents ++ [(lo, hi', (vals.length : Int))])) := HM2.out hm
    obtain ⟨w3, hrun, T3, tu3⟩ := T2.put (by unfold maxLen; omega) f5 hm
    have nb3 := (tu3.block R hR2 (by omega)).trans nb2
    have hw3s : w.heap.size ≤ w3.heap.size := T3.bel.size
    have HV : Hid (w3.ownsRow w.heap.size 3 1 (.slice va vals.length vc) vals.length (vals.map fun x => (.int .i64 x))) := T3.vr
    have HT3 : Hid (TS w w3 (.slice va vals.length vc) (.slice ea ents.length ec) vals (vals ++ [vx]) ents (k + 1 + 1)) := T3
    clear T2 T3 tu3 nb2 HM1 HM2 hp hm
    generalize hvn : vals.length = vn at *
    generalize hen : ents.length = en at *
    go_wp2_with (at_builtin; refine wpList_append_own _ rfl _ _ 37 rfl w.heap.size 3 i0 (.int .i64 0) 1 8 Tryz.underlying37 hi hz0 hz1 hz2 rfl (by decide) _ _ _ rfl (HV.out.alloc _) ⟨w3.heap.size, 0, none⟩ 1 1 [(.int .i64 vx)] rfl rfl (cell_one_new _ _ _) (by simp [Value.oneCell']) (by unfold maxLen; omega) (by omega) (by simp; omega) ?_)
    intro v7' w4 hown4 hgrow _
    have hw3 : R < w3.heap.size := (Array.getElem?_eq_some_iff.1 nb3).1
    have HT4 : Hid (TS w w4 v7' (.slice ea en ec) (vals ++ [vx]) (vals ++ [vx]) ents (k + 1 + 1)) := by
     refine (HT3.out.below ((Below.refl _ w3).alloc (Nat.le_refl _) _)).app7 hgrow ?_
     rw [List.map_append, List.length_append, hvn]; exact hown4
    have hw4s : w.heap.size ≤ w4.heap.size := HT4.out.bel.size
    have nb4 : w4.heap[R]? = some (.cells #[.int .i64 lo, .int .i64 hi', .slice (some ⟨fg, fo, none⟩) n3 fc] 98 (0, 0)) := by
     rw [hgrow.block R (by simp; omega) (fun e => by have := HV7.out R e.symm; omega), Below.heap_alloc _ _ _ hw3]
     exact nb3
    have c0 := cell_of_row w4 R 0 _ _ _ nb4
    have c1 := cell_of_row w4 R 1 _ _ _ nb4
    simp at c0 c1
    have HE : Hid (w4.ownsRow w.heap.size 95 3 (.slice ea en ec) en (flat ents)) := by have := HT4.out.er; rw [hen] at this; exact this
    clear hown4 hgrow HV HT3 hrun hlk nb3 nb4
    go_wp2_with (at_builtin; refine wpList_append_own _ rfl _ _ 96 rfl w.heap.size 95 j0 (.agg #[.int .i64 0, .int .i64 0, .int .i64 0]) 3 24 Tryz.underlying96 gi gz0 gz1 gz2 rfl (by decide) _ _ _ rfl (HE.out.alloc _) ⟨w4.heap.size, 0, none⟩ 1 1 [.int .i64 lo, .int .i64 hi', .int .i64 vn] rfl rfl ?c1 ?c2 ?c3 ?c4 ?c5 ?_)
    case c1 => exact tri.one_new w4 _ _ _ _
    case c2 => intro u hu; simp at hu; rcases hu with rfl | rfl | rfl <;> rfl
    case c3 => unfold maxLen; omega
    case c4 => omega
    case c5 => simp; omega
    ·intro v' w5 hown5 hgrow _
     have T5 : Hid (TS w w5 v7' v' acc'.1 acc'.1 acc'.2 (k + 1 + 1)) := by
      rw [Hid, HN2.out]
      refine (HT4.out.below ((Below.refl _ w4).alloc (Nat.le_refl _) _)).app9 hgrow ?_
      rw [tri.flat_append, tri.flat_three, List.length_append, hen]; exact hown5
     clear hown5 hgrow HE HT4
     go_wp2
     go_roundw
     case rel => exact ⟨k + 1, by omega, by go_num, by rw [HACC.out]; exact T5⟩
     case measure => simp [RowKit.intOf]; omega
  ·have hge : ¬ (k : Int) < (l.length : Int) := by omega
   have htk : (l.map trip).take k = l.map trip := List.take_of_length_le (by rw [List.length_map]; omega)
   rw [htk] at HT hvl hel hinv
   have hpos : 0 < (tall nn (l.map trip)).1.length := (List.getElem?_eq_some_iff.1 hinv.head).1
   obtain ⟨vg, vc, rfl⟩ : ∃ g c, u7 = .slice (some ⟨g, 0, none⟩) (tall nn (l.map trip)).1.length c := by
    rcases HT.out.vr.2 with ⟨_, h⟩ | ⟨g, cap, cur, he, _⟩
    ·omega
    ·exact ⟨g, cap, he⟩
   obtain ⟨ea, ec, rfl⟩ := own_slice HT.out.er
   have hcs : ∀ (i : Nat) v, (tall nn (l.map trip)).1[i]? = some v → wr.cell? ⟨vg, i, none⟩ = some (.int .i64 v) := fun i v hi => by
    have hil := (List.getElem?_eq_some_iff.1 hi).1
    rw [HT.out.vr.cellAt i (by omega), List.getElem?_map, hi]; rfl
   have hue := use_same _ _ hinv.fit
   have hev : EV wr ea (tall nn (l.map trip)).2 := by
    obtain ⟨ao, cap, he, hv, _⟩ := tri.Own.view (show tri.Own wr w.heap.size _ _ from HT.out.er)
    cases he; exact hv
   have BU := tri.num.build_any (fun i => (tall nn (l.map trip)).1.getD i.toNat 0) ea (some ⟨vg, 0, none⟩) ec (tall nn (l.map trip)).1.length vc (tall nn (l.map trip)).2 wr (by omega) hev (.inr ⟨vg, 0, rfl, fun i hi => by
    rw [Nat.zero_add, hcs i _ (List.getElem?_eq_getElem hi)]
    simp only [Int.toNat_natCast]
    rw [ List.getD_eq_getElem?_getD, List.getElem?_eq_getElem hi]; rfl⟩)
   rw [hue] at BU
   have HINV2 : Hid (TInv nn (lastV nn (l.map trip)) (k + 1) (tall nn (l.map trip))) := hinv
   have HCS : Hid (∀ (i : Nat) v, (tall nn (l.map trip)).1[i]? = some v → wr.cell? ⟨vg, i, none⟩ = some (.int .i64 v)) := hcs
   have hrb := HT.out.rb
   have HBE : Hid (Below w.heap.size w wr) := HT.out.bel
   have hbs := HT.out.bel.size
   have hrl : w.heap.size < wr.heap.size := (Array.getElem?_eq_some_iff.1 hrb).1
   have hr1 : lastV nn (l.map trip) (-1) = nn := HOUT.out _ (.inl (by decide))
   have HHD : Hid ((tall nn (l.map trip)).1[0]? = some (lastV nn (l.map trip) (-1))) := by rw [hr1]; exact hinv.head
   have HOO : Hid (∀ r, r < 0 ∨ 1114111 < r → lastV nn (l.map trip) r = lastV nn (l.map trip) (-1)) := fun r hr => by rw [hr1]; exact HOUT.out r hr
   clear HT hinv hcs hue hev htk hr1 HREC HFT HINV HNX HOUT
   generalize hF : lastV nn (l.map trip) = F at *
   generalize hA : tall nn (l.map trip) = acc at *
   have HF : Hid (lastV nn (l.map trip) = F) := hF
   have HA : Hid (tall nn (l.map trip) = acc) := hA
   clear hF hA
   obtain ⟨vals, ents⟩ := acc
   simp only at *
   generalize hvn : vals.length = vn at *
   generalize hen : ents.length = en at *
   go_wp2_with fail
   refine BU.mono ?_
   rintro e w2 ⟨tb, s, rfl, ht, hr, hat, hb⟩
   clear BU
   have nb2 := (hb.block _ hrl).trans hrb
   have k0 := cell_of_row w2 w.heap.size 0 _ _ _ nb2
   have k1 := cell_of_row w2 w.heap.size 1 _ _ _ nb2
   have f0 := frozen_of_row w2 w.heap.size 0 _ _ nb2
   have f1 := frozen_of_row w2 w.heap.size 1 _ _ nb2
   simp at k0 k1
   have HTR : Hid (TrieIs w2 (fun i => vals.getD i.toNat 0) tb s) := ht
   have HRI : Hid (tri.Ris (vn : Int) 0 s) := hr
   have HAT : Hid (∀ x, at_ s x = last ents x) := hat
   clear ht hr hat hrb
   go_wp2
   refine bodyPost_ret (results_cell_row Tryz.results34 _ _ w.heap.size _ _ _ _ rfl (row2_set nb2 _ _) Tryz.underlying39 rfl infoTab) rfl ?_
   have TT := turns2 w2 w.heap.size (.pointer (some ⟨tb, 0, none⟩)) (.slice (some ⟨vg, 0, none⟩) vn vc)
   have hb2 := hb.size
   refine ⟨tb, vg, vc, vals, s, by rw [hvn], by rw [HA.out], ⟨trie_turns HTR.out TT k0, by rw [hvn]; exact HRI.out, fun i v hi => ?_, fun r h1 h2 => ?_, by rw [HF.out]; exact HHD.out, by rw [HF.out]; exact HOO.out⟩, HBE.out.trans ((hb.mono hbs).trans (TT.below (by omega) (fun k d => by omega)))⟩
   ·have h1 := (hb.cell (World.block_lt_of_cell? wr _ (HCS.out i v hi))).trans (HCS.out i v hi)
    have h2 := (hb.cell (World.block_lt_of_cell? wr _ (HCS.out 0 _ HHD.out))).trans (HCS.out 0 _ HHD.out)
    refine (World.cell?_of_block (a := ⟨vg, i, none⟩) (TT.block vg (World.block_lt_of_cell? w2 _ h1) (fun e => ?_))).trans h1
    rw [show vg = w.heap.size from e, k0] at h2
    cases h2
   ·obtain ⟨i, h3, h4⟩ := HINV2.out.tell r h1 h2
    exact ⟨i, by rw [HAT.out]; exact h3, by rw [HF.out]; exact h4⟩
set_option maxHeartbeats 2000000 in
set_option maxRecDepth 1000000 in
theorem of_any (tb vb vc : Nat) (vals : List (Int)) (s : List E) (F : Int → Int) (r : Int) (w : World) (h : TabIs w tb vb vals s F) :
  Calls Tryz.prog 250 #[.agg #[.pointer (some ⟨tb, 0, none⟩), .slice (some ⟨vb, 0, none⟩) vals.length vc], .int .i64 r] w fun e w' => e = .returned (.int .i64 (F r)) ∧ Below w.heap.size w w' := by
 have hb0 := (Below.refl w.heap.size w).alloc (Nat.le_refl _) (.cells #[.pointer (some ⟨tb, 0, none⟩), .slice (some ⟨vb, 0, none⟩) vals.length vc] 39)
 have h' := h.below hb0
 have GE := tri.num.get_any _ _ tb s r _ h'.tr h'.ris
 have nb : (w.alloc (.cells #[.pointer (some ⟨tb, 0, none⟩), .slice (some ⟨vb, 0, none⟩) vals.length vc] 39)).heap[w.heap.size]? = some (.cells #[.pointer (some ⟨tb, 0, none⟩), .slice (some ⟨vb, 0, none⟩) vals.length vc] 39 (0, 0)) := World.alloc_heap_new _ _
 have hpos : 0 < vals.length := (List.getElem?_eq_some_iff.1 h.head).1
 have hv0 := h'.vs 0 _ h.head
 have HB0 : Hid (Below w.heap.size w (w.alloc (.cells #[.pointer (some ⟨tb, 0, none⟩), .slice (some ⟨vb, 0, none⟩) vals.length vc] 39))) := hb0
 by_cases hr : 0 ≤ r ∧ r ≤ 1114111
 ·obtain ⟨i, h1, h2⟩ := h.tell r hr.1 hr.2
  have he : tri.num.told (fun i => vals.getD i.toNat 0) (at_ s r) = (.int .i64 (F r)) := by
   rw [h1]
   unfold tri.num.told
   simp only [Int.toNat_natCast]
   rw [List.getD_eq_getElem?_getD, h2]; rfl
  rw [he, h1] at GE
  simp only [Option.isSome_some] at GE
  clear h h' h1 h2 he hr hv0 hb0
  generalize vals.length = vn at *
  go_enter Tryz.func250, Tryz.ntmps250
  go_wp2_with fail
  refine GE.mono ?_
  rintro e w1 ⟨rfl, hb1⟩
  clear GE
  go_wp2
  go_ret
  exact ⟨rfl, HB0.out.trans (hb1.mono HB0.out.size)⟩
 ·have hn : at_ s r = none := by
   cases he : at_ s r with
   | none => rfl
   | some v => have := tri.at_code h.ris (Int.le_refl 0) he; omega
  have hF : F r = F (-1) := h.out r (by omega)
  rw [hn] at GE
  rw [hF]
  simp only [Option.isSome_none, tri.num.told] at GE
  clear h h' hn hr hb0 hF
  have hpos' : (0 : Int) < (vals.length : Int) := by omega
  generalize vals.length = vn at *
  go_enter Tryz.func250, Tryz.ntmps250
  go_wp2_with fail
  refine GE.mono ?_
  rintro e w1 ⟨rfl, hb1⟩
  clear GE
  have hv1 := (hb1.cell (p := ⟨vb, 0, none⟩) (World.block_lt_of_cell? _ _ hv0)).trans hv0
  have nb1 := (hb1.block _ (Array.getElem?_eq_some_iff.1 nb).1).trans nb
  have k1 := cell_of_row w1 w.heap.size 1 _ _ _ nb1
  simp at k1
  clear hv0 nb nb1
  go_wp2
  go_ret
  exact ⟨rfl, HB0.out.trans (hb1.mono HB0.out.size)⟩
end Go.Proofs.YtinlolmjafjhnaaGreatDoor.prp.num
end
