/- Texts that the proof leans on, one behind the other. -/
import Derived.Test.YtochajmhljipbaaGreatDoorBdPrp6
import Derived.Test.YtochajmhljipbaaGreatDoorBdNam1

section
/- The document's side of props: the first record that says something of a code point; no two say something of one. -/
set_option linter.unusedVariables false
set_option linter.unusedSimpArgs false
namespace Go.Proofs.YtochajmhljipbaaGreatDoor.prp
open lin

/-- No two of the records that are kept have a code point in common. -/
def apartK (keep : RL → Bool) : List RL → Bool
  | [] => true
  | x :: l => (!keep x || l.all (fun y => !keep y || (decide (x.2.1 < y.1) || decide (y.2.1 < x.1)))) && apartK keep l
theorem apart_one {keep : RL → Bool} {x : RL} {l : List RL} (h : apartK keep (x :: l) = true) {r : Int} (hk : keep x = true) (hx : inR x r = true) : ∀ y ∈ l, keep y = true → inR y r = false := by
  intro y hy hky
  unfold apartK at h
  rw [hk, Bool.not_true, Bool.false_or, Bool.and_eq_true, List.all_eq_true] at h
  have h1 := h.1 y hy
  rw [hky, Bool.not_true, Bool.false_or, Bool.or_eq_true, decide_eq_true_eq, decide_eq_true_eq] at h1
  unfold inR at hx ⊢
  rw [Bool.and_eq_true, decide_eq_true_eq, decide_eq_true_eq] at hx
  cases t : (decide (y.1 ≤ r) && decide (r ≤ y.2.1))
  · rfl
  · rw [Bool.and_eq_true, decide_eq_true_eq, decide_eq_true_eq] at t
    omega
theorem apart_tail {keep : RL → Bool} {x : RL} {l : List RL} (h : apartK keep (x :: l) = true) : apartK keep l = true := by
  unfold apartK at h
  rw [Bool.and_eq_true] at h
  exact h.2
def allR (_ : RL) : Bool := true
theorem cat_apart : apartK allR catL = true := by decide +kernel
theorem com_apart : apartK allR comL = true := by decide +kernel
theorem clu_apart : apartK allR cluL = true := by decide +kernel
theorem wor_apart : apartK allR worL = true := by decide +kernel
theorem scr_apart : apartK allR scrL = true := by decide +kernel
theorem dec_apart : apartK allR decL = true := by decide +kernel
/-- The first record that says something of a code point. -/
def firstR (l : List RL) (r : Int) : Option RL := l.find? (fun x => inR x r)
theorem first_none {l : List RL} {r : Int} (h : ∀ y ∈ l, inR y r = false) : firstR l r = none := by
  unfold firstR
  rw [List.find?_eq_none]
  intro y hy
  rw [h y hy]
  decide
theorem first_cons (x : RL) (l : List RL) (r : Int) : firstR (x :: l) r = if inR x r then some x else firstR l r := by
  unfold firstR
  rw [List.find?_cons]
  cases inR x r <;> rfl
theorem lastV_first {α : Type} (val : RL → α) (r : Int) : ∀ (l : List RL) (nn : α), apartK allR l = true → lastV nn (l.map (fun x => (x.1, x.2.1, val x))) r = ((firstR l r).map val).getD nn := by
  intro l
  induction l with
  | nil => intro nn _; rfl
  | cons x l ih =>
    intro nn h
    have i1 := ih (if x.1 ≤ r ∧ r ≤ x.2.1 then val x else nn) (apart_tail h)
    have e : lastV nn ((x :: l).map (fun x => (x.1, x.2.1, val x))) r = lastV (if x.1 ≤ r ∧ r ≤ x.2.1 then val x else nn) (l.map (fun x => (x.1, x.2.1, val x))) r := by
      unfold lastV
      rw [List.map_cons, List.foldl_cons]
    rw [e, i1, first_cons]
    cases t : inR x r
    · have hn : ¬ (x.1 ≤ r ∧ r ≤ x.2.1) := by
        intro hh
        unfold inR at t
        rw [decide_eq_true hh.1, decide_eq_true hh.2] at t
        cases t
      rw [if_neg hn, if_neg (show ¬ (false = true) by decide)]
    · rw [if_pos (show true = true from rfl), first_none (fun y hy => apart_one h rfl t y hy rfl)]
      have hy : x.1 ≤ r ∧ r ≤ x.2.1 := by
        unfold inR at t
        rwa [Bool.and_eq_true, decide_eq_true_eq, decide_eq_true_eq] at t
      rw [if_pos hy]
      rfl
theorem sF_first (nn : List UInt8) (l : List RL) (h : apartK allR l = true) (r : Int) : sF nn l r = ((firstR l r).map (fun x => x.2.2.getD 0 [])).getD nn := lastV_first str.rd r l nn h
theorem iF_first (l : List RL) (h : apartK allR l = true) (r : Int) : iF l r = ((firstR l r).map num.rd).getD 0 := lastV_first num.rd r l 0 h

theorem foldl_or (val : RL → Int → Option (List Int)) (r : Int) : ∀ (l : List RL) (g : Int → Option (List Int)), l.foldl (fun g x => fun r => (val x r).or (g r)) g r = (l.foldl (fun g x => fun r => (val x r).or (g r)) (fun _ => none) r).or (g r) := by
  intro l
  induction l with
  | nil => intro g; rfl
  | cons x l ih =>
    intro g
    rw [List.foldl_cons, List.foldl_cons, ih (fun r => (val x r).or (g r)), ih (fun r => (val x r).or none)]
    cases List.foldl (fun g x r => (val x r).or (g r)) (fun _ => none) l r <;> cases val x r <;> rfl
theorem lastG_cons (val : RL → Int → Option (List Int)) (x : RL) (l : List RL) (r : Int) : lastG val (x :: l) r = (lastG val l r).or (val x r) := by
  have e : lastG val (x :: l) r = l.foldl (fun g x => fun r => (val x r).or (g r)) (fun r => (val x r).or none) r := rfl
  rw [e, foldl_or]
  unfold lastG
  cases val x r <;> rfl
theorem lastG_two (v1 v2 : RL → Int → Option (List Int)) (r : Int) : ∀ l : List RL, (∀ a x b, l = a ++ x :: b → (v1 x r).or (v2 x r) ≠ none → ∀ y ∈ b, v1 y r = none ∧ v2 y r = none) → (lastG v1 l r).or (lastG v2 l r) = l.findSome? (fun x => (v1 x r).or (v2 x r)) := by
  intro l
  induction l with
  | nil => intro _; rfl
  | cons x l ih =>
    intro h
    have i1 := ih (fun a y b e => h (x :: a) y b (by rw [e]; rfl))
    have h0 := h [] x l rfl
    rw [lastG_cons, lastG_cons, List.findSome?_cons]
    cases t : (v1 x r).or (v2 x r) with
    | none =>
      obtain ⟨t1, t2⟩ : v1 x r = none ∧ v2 x r = none := by
        cases e1 : v1 x r <;> cases e2 : v2 x r <;> rw [e1, e2] at t <;> simp at t ⊢
      rw [t1, t2, Option.or_none, Option.or_none]
      exact i1
    | some z =>
      have hn := h0 (by rw [t]; simp)
      have n1 : ∀ (v : RL → Int → Option (List Int)), (∀ y ∈ l, v y r = none) → lastG v l r = none := by
        intro v hv
        clear i1 ih h h0 hn
        induction l with
        | nil => rfl
        | cons y l ih2 => rw [lastG_cons, ih2 (fun z hz => hv z (by simp [hz])), hv y (by simp)]; rfl
      rw [n1 v1 (fun y hy => (hn y hy).1), n1 v2 (fun y hy => (hn y hy).2), Option.none_or, Option.none_or]
      exact t
/-- The words of a text, as the document's side cuts it. -/
def spl : List UInt8 → List UInt8 → List (List UInt8)
  | cur, [] => [cur]
  | cur, c :: l => if c = 32 then cur :: spl [] l else spl (cur ++ [c]) l
def rcp (x : RL) (j : Nat) : List Int := pts ((spl [] (x.2.2.getD j [])).map BA)
theorem dec_rcp : ∀ x ∈ decL, rcp x 0 = cp x 0 := by decide +kernel
theorem fol_rcp : ∀ x ∈ folL, rcp x 1 = cp x 1 ∧ 0 < (cp x 1).length := by decide +kernel
theorem partsF_first (r : Int) : partsF r = ((firstR decL r).map (fun x => rcp x 0)).getD [] := by
  have h1 := lastG_two partsVal (fun _ _ => none) r decL (fun a x b e hx y hy => by
    refine ⟨?_, rfl⟩
    rw [Option.or_none] at hx
    have hin : inR x r = true := by
      cases t : inR x r
      · exfalso; apply hx; unfold partsVal; rw [t]; rfl
      · rfl
    have hap : ∀ (l a : List RL), apartK allR l = true → l = a ++ x :: b → apartK allR (x :: b) = true := by
      intro l a
      induction a generalizing l with
      | nil => intro h e; rw [e] at h; exact h
      | cons z a ih => intro h e; rw [e] at h; exact ih _ (apart_tail h) rfl
    have := apart_one (hap _ a dec_apart e) rfl hin y hy rfl
    unfold partsVal
    rw [this]
    rfl)
  have h2 : lastG (fun _ _ => none) decL r = none := by
    have : ∀ l : List RL, lastG (fun _ _ => none) l r = none := by
      intro l
      induction l with
      | nil => rfl
      | cons y l ih => rw [lastG_cons, ih]; rfl
    exact this _
  rw [h2, Option.or_none] at h1
  unfold partsF
  rw [h1]
  have h3 : ∀ l : List RL, (∀ x ∈ l, rcp x 0 = cp x 0) → l.findSome? (fun x => (partsVal x r).or none) = (firstR l r).map (fun x => rcp x 0) := by
    intro l
    induction l with
    | nil => intro _; rfl
    | cons y l ih =>
      intro hl
      rw [List.findSome?_cons, first_cons, Option.or_none]
      cases t : inR y r
      · have e : partsVal y r = none := by unfold partsVal; rw [t]; rfl
        rw [e, if_neg (by decide)]
        exact ih (fun x hx => hl x (by simp [hx]))
      · have e : partsVal y r = some (cp y 0) := by unfold partsVal; rw [t]; rfl
        rw [e, if_pos rfl, Option.map_some, hl y (by simp)]
  rw [h3 _ dec_rcp]
/-- Is the record one of those that this way of folding takes? -/
def takesB (full : Bool) (x : RL) : Bool := (x.2.2.getD 0 [] == [67]) || ((x.2.2.getD 0 [] == [70]) == full)
theorem fol_apart : apartK (takesB true) folL = true ∧ apartK (takesB false) folL = true := by decide +kernel
theorem fol_fit2 : ∀ x ∈ folL, 2 ≤ x.2.2.length ∧ (x.2.2.getD 0 [] = [67] ∨ x.2.2.getD 0 [] = [70] ∨ x.2.2.getD 0 [] = [83]) ∧ (x.1 = x.2.1 ∨ (cp x 1).length = 1) := by decide +kernel
/-- What a record folds to, as the document's side reckons it. -/
def headAdd (l : List Int) (k : Int) : List Int := match l with | [] => [] | a :: t => (a + k) :: t
def firstF (full : Bool) (l : List RL) (r : Int) : Option RL := l.find? (fun x => takesB full x && inR x r)
theorem foldF_first (full : Bool) (r : Int) : foldF full r = ((firstF full folL r).map (fun x => headAdd (rcp x 1) (r - x.1))).getD [r] := by
  have hap0 : apartK (takesB full) folL = true := by
    cases full with
    | false => exact fol_apart.2
    | true => exact fol_apart.1
  have hone : ∀ x ∈ folL, (foldVal [67] x r).or (foldVal (if full then [70] else [83]) x r) = if takesB full x && inR x r then some (headAdd (rcp x 1) (r - x.1)) else none := by
    intro x hx
    obtain ⟨h1, h2, h3⟩ := fol_fit2 x hx
    have hh : inR x r = true → (cp x 1).map (· + (r - x.1)) = headAdd (rcp x 1) (r - x.1) := by
      intro hin
      rw [(fol_rcp x hx).1]
      have hpos := (fol_rcp x hx).2
      unfold inR at hin
      rw [Bool.and_eq_true, decide_eq_true_eq, decide_eq_true_eq] at hin
      generalize cp x 1 = L at *
      cases L with
      | nil => rfl
      | cons a t =>
        rcases h3 with h3 | h3
        · have : r - x.1 = 0 := by omega
          rw [this]
          simp [headAdd]
        · have : t = [] := List.eq_nil_of_length_eq_zero (by simpa using h3)
          subst this
          rfl
    unfold foldVal takesB
    cases t : inR x r
    · rw [Bool.and_false, if_neg (by simp), if_neg (by simp), if_neg (by simp)]; rfl
    · rw [Bool.and_true]
      rcases h2 with e | e | e <;> rw [e] <;> cases full <;> simp [h1, hh t]
  have h1 := lastG_two (foldVal [67]) (foldVal (if full then [70] else [83])) r folL (fun a x b e hx y hy => by
    have hxm : x ∈ folL := by rw [e]; simp
    have hym : y ∈ folL := by rw [e]; simp [hy]
    rw [hone x hxm] at hx
    have hin : takesB full x = true ∧ inR x r = true := by
      cases t : takesB full x && inR x r
      · rw [t] at hx; exact absurd rfl hx
      · rwa [Bool.and_eq_true] at t
    have hap : ∀ (l a : List RL), apartK (takesB full) l = true → l = a ++ x :: b → apartK (takesB full) (x :: b) = true := by
      intro l a
      induction a generalizing l with
      | nil => intro h e; rw [e] at h; exact h
      | cons z a ih => intro h e; rw [e] at h; exact ih _ (apart_tail h) rfl
    have hy2 := hone y hym
    have hyF : (takesB full y && inR y r) = false := by
      cases t : takesB full y
      · rfl
      · rw [apart_one (hap _ a hap0 e) hin.1 hin.2 y hy t]; rfl
    rw [hyF] at hy2
    have hy3 : (foldVal [67] y r).or (foldVal (if full then [70] else [83]) y r) = none := hy2
    cases e1 : foldVal [67] y r <;> cases e2 : foldVal (if full then [70] else [83]) y r <;> rw [e1, e2] at hy3 <;> simp at hy3 ⊢)
  unfold foldF
  rw [h1]
  have h3 : ∀ l : List RL, (∀ x ∈ l, x ∈ folL) → l.findSome? (fun x => (foldVal [67] x r).or (foldVal (if full then [70] else [83]) x r)) = (firstF full l r).map (fun x => headAdd (rcp x 1) (r - x.1)) := by
    intro l
    induction l with
    | nil => intro _; rfl
    | cons y l ih =>
      intro hl
      unfold firstF at ih ⊢
      rw [List.findSome?_cons, hone y (hl y (by simp)), List.find?_cons]
      cases t : takesB full y && inR y r
      · exact ih (fun x hx => hl x (by simp [hx]))
      · rfl
  rw [h3 folL (fun x hx => hx)]
/-- A number's digits, as the document's side reads them. -/
def digL (l : List UInt8) : Int := l.foldl (fun n c => 10 * n + ((c - 48).toNat : Int)) 0
theorem com_dig : ∀ x ∈ comL, digL (x.2.2.getD 0 []) = num.rd x ∧ (x.2.2.getD 0 []).length ≤ 3 ∧ 0 < x.2.2.length := by decide +kernel
def orF (l : List RL) (r : Int) (other : List UInt8) : List UInt8 := ((firstR l r).map (fun x => x.2.2.getD 0 [])).getD other
theorem first_mem {l : List RL} {r : Int} {x : RL} (h : firstR l r = some x) : x ∈ l ∧ inR x r = true := ⟨List.mem_of_find?_eq_some h, by have := List.find?_some h; exact this⟩
theorem comF_first (r : Int) : iF comL r = digL (orF comL r [48]) ∧ (orF comL r [48]).length ≤ 3 := by
  rw [iF_first comL com_apart]
  unfold orF
  cases h : firstR comL r with
  | none => exact ⟨rfl, by decide⟩
  | some x =>
    obtain ⟨h1, h2, _⟩ := com_dig x (first_mem h).1
    exact ⟨h1.symm, h2⟩
end Go.Proofs.YtochajmhljipbaaGreatDoor.prp
end

section
/- rubricatorref06.points. -/
set_option linter.unusedVariables false
set_option linter.unusedSimpArgs false
namespace Go.Proofs.YtochajmhljipbaaGreatDoor.prp
open Go.RowKit Go.Maps lin
open Go.Proofs.YtochajmhljipbaaGreatDoor.nam (BA_app ext_one)

theorem one_icell (w : World) (x : Value) (t : TypeId) : ∀ (j : Nat) (u : Value), [x][j]? = some u → (w.alloc (Obj.cells #[x] t)).cell? ((⟨w.heap.size, 0, none⟩ : Addr).add j) = some u := by
  intro j u h
  match j, h with
  | 0, h =>
    simp at h
    subst h
    simp [Addr.add]
theorem spl_drop (s : ByteArray) (p : Nat) (h : p < s.size) (cur : List UInt8) : spl cur (s.data.toList.drop p) = if (s[p]'h) = 32 then cur :: spl [] (s.data.toList.drop (p + 1)) else spl (cur ++ [s[p]'h]) (s.data.toList.drop (p + 1)) := by
  rw [drop_cons s p h]
  rfl
set_option maxHeartbeats 2000000 in
set_option maxRecDepth 1000000 in
theorem points_any (s : ByteArray) (w : World) (hs : s.size ≤ 1000) :
    Calls Tryz.prog 42 #[.string s] w fun e w' => ∃ v, e = .returned v ∧ IOwn w' w.heap.size v (pts ((spl [] s.data.toList).map BA)) ∧ Below w.heap.size w w' := by
  obtain ⟨i0, hi, hz0, hy1, hz2⟩ := info_parts infoInt
  have HEX : Hid (∀ (cur : List UInt8) (W : World), cur.length ≤ 1000 → Calls Tryz.prog 64 #[.string (BA cur)] W fun e w' => e = .returned (.tuple #[.int .i64 (hexN (BA cur)), .bool (hexB (BA cur))]) ∧ w' = W) := fun cur W hc => rhex_any (BA cur) W (by rw [BA_size]; omega)
  have HSD : Hid (∀ p (h : p < s.size) cur, spl cur (s.data.toList.drop p) = if (s[p]'h) = 32 then cur :: spl [] (s.data.toList.drop (p + 1)) else spl (cur ++ [s[p]'h]) (s.data.toList.drop (p + 1))) := spl_drop s
  have HSE : Hid (∀ cur, spl cur (s.data.toList.drop s.size) = [cur]) := fun cur => by rw [List.drop_eq_nil_of_le (by simp)]; rfl
  have HS0 : Hid ([] ++ spl [] (s.data.toList.drop 0) = spl [] s.data.toList) := rfl
  go_enter Tryz.func42, Tryz.ntmps42
  go_wp2
  go_loopw [3, 4, 5] (fun u3 u4 i wr => ∃ (p : Nat) (cur : List UInt8) (dn : List (List UInt8)), p ≤ s.size + 1 ∧ i = .int .i64 p ∧ u4 = .string (BA cur) ∧ cur.length ≤ p ∧ dn.length ≤ p ∧ Hid (p ≤ s.size → dn ++ spl cur (s.data.toList.drop p) = spl [] s.data.toList) ∧ Hid (p = s.size + 1 → dn = spl [] s.data.toList) ∧ wr.ownsRow w.heap.size 3 1 u3 (pts (dn.map BA)).length ((pts (dn.map BA)).map (Value.int .i64)) ∧ Below w.heap.size w wr) (fun _ _ i _ => s.size + 1 - (RowKit.intOf i).toNat)
  case atStart => exact ⟨0, [], [], Nat.zero_le _, rfl, rfl, Nat.le_refl _, Nat.le_refl _, fun _ => HS0.out, fun h => (by omega), World.ownsRow_nil _ _ _ _, Below.refl _ w⟩
  case round =>
    clear HS0
    obtain ⟨p, cur, dn, hp, rfl, rfl, hcl0, hdl, HA0, HZ0, hown, hbel⟩ := hrel
    have hbs := hbel.size
    by_cases hle : p ≤ s.size
    · have hle' : (p : Int) ≤ (s.size : Int) := by omega
      have hcl : cur.length ≤ 1000 := by omega
      have wp1 : IntKind.i64.wrap ((p : Int) + 1) = (p : Int) + 1 := by rw [IntKind.wrap_i64]; omega
      by_cases hlt : p < s.size
      · have hlt' : (p : Int) < (s.size : Int) := by omega
        have hsd := HSD.out p hlt cur
        have HX1 : Hid (s.extract p (p + 1) = BA [s[p]'hlt]) := ext_one s p hlt
        by_cases h32 : (s[p]'hlt) = 32
        · rw [if_pos h32] at hsd
          have HA : Hid (p + 1 ≤ s.size → (dn ++ [cur]) ++ spl [] (s.data.toList.drop (p + 1)) = spl [] s.data.toList) := fun _ => by rw [← HA0.out hle, hsd]; simp
          have HZ : Hid (p + 1 = s.size + 1 → dn ++ [cur] = spl [] s.data.toList) := fun h => by omega
          have t32 : ((s[p]'hlt).toNat : Int) = 32 := by rw [h32]; rfl
          clear hsd HX1 h32 HA0 HZ0 hcl0
          have H := HEX.out cur wr hcl
          have HP : Hid (pts ((dn ++ [cur]).map BA) = pts (dn.map BA) ++ pt (BA cur)) := by unfold Hid; rw [List.map_append, List.map_cons, List.map_nil, pts_snoc]
          have hpt : pt (BA cur) = if hexB (BA cur) then [hexN (BA cur)] else [] := rfl
          have hpl := pts_len (dn.map BA)
          rw [List.length_map] at hpl
          have HW : Hid (∀ j, u3.ownBlock = some j → w.heap.size ≤ j) := fun j e => (hown.lt _ e).1
          cases hx : hexB (BA cur) with
          | true =>
            rw [hx, if_pos rfl] at hpt
            rw [hx] at H
            rw [Hid, hpt] at HP
            have HP2 : Hid (pts ((dn ++ [cur]).map BA) = pts (dn.map BA) ++ [hexN (BA cur)]) := HP
            clear HP hpt hx
            generalize hexN (BA cur) = N at *
            generalize pts (dn.map BA) = M at *
            generalize BA cur = B at *
            go_wp2_with fail
            refine H.mono ?_
            rintro e w5 ⟨rfl, hw5⟩
            rw [hw5]
            clear hw5 w5 H
            go_wp2_with (at_builtin; refine wpList_append_own _ rfl _ _ 22 rfl w.heap.size 3 i0 (.int .i64 0) 1 8 Tryz.underlying22 hi hz0 hy1 hz2 rfl (by decide) _ _ _ rfl (hown.alloc _) ⟨wr.heap.size, 0, none⟩ 1 1 [.int .i64 N] rfl rfl ?c1 ?c2 ?c3 ?c4 ?c5 ?_)
            case c1 => exact one_icell wr _ _
            case c2 => intro u hu; simp at hu; subst hu; rfl
            case c3 => unfold maxLen; omega
            case c4 => omega
            case c5 => simp; omega
            intro v' w4 hown4 hgrow _
            have R2 := Below.grown (hbel.alloc hbs (.cells #[.int .i64 N] 3)) hgrow (by simp; omega) HW.out
            have R1 : w4.ownsRow w.heap.size 3 1 v' (pts ((dn ++ [cur]).map BA)).length ((pts ((dn ++ [cur]).map BA)).map (Value.int .i64)) := by
              rw [HP2.out, List.length_append, List.map_append]; exact hown4
            clear hown4 hgrow HP2
            go_wp2
            go_roundw
            case rel => exact ⟨p + 1, [], dn ++ [cur], by omega, by go_num, rfl, by simp, by simp; omega, HA, HZ, R1, R2⟩
            case measure => simp [intOf]; omega
          | false =>
            rw [hx, if_neg (by decide)] at hpt
            rw [hx] at H
            have R1 : wr.ownsRow w.heap.size 3 1 u3 (pts ((dn ++ [cur]).map BA)).length ((pts ((dn ++ [cur]).map BA)).map (Value.int .i64)) := by
              rw [HP.out, hpt, List.append_nil]; exact hown
            clear HP hpt hx hown
            generalize hexN (BA cur) = N at *
            generalize BA cur = B at *
            go_wp2_with fail
            refine H.mono ?_
            rintro e w5 ⟨rfl, hw5⟩
            rw [hw5]
            clear hw5 w5 H
            go_wp2
            go_roundw
            case rel => exact ⟨p + 1, [], dn ++ [cur], by omega, by go_num, rfl, by simp, by simp; omega, HA, HZ, R1, hbel⟩
            case measure => simp [intOf]; omega
        · rw [if_neg h32] at hsd
          have HA : Hid (p + 1 ≤ s.size → dn ++ spl (cur ++ [s[p]'hlt]) (s.data.toList.drop (p + 1)) = spl [] s.data.toList) := fun _ => by rw [← HA0.out hle, hsd]
          have HZ : Hid (p + 1 = s.size + 1 → dn = spl [] s.data.toList) := fun h => by omega
          have HBA : Hid (BA cur ++ s.extract p (p + 1) = BA (cur ++ [s[p]'hlt])) := by unfold Hid; rw [HX1.out, BA_app]
          have hez : (s.extract p (p + 1)).size = 1 := by rw [HX1.out]; rfl
          have t32 : (((s[p]'hlt).toNat : Int) == 32) = false := by
            rw [beq_eq_false_iff_ne]
            intro e
            apply h32
            apply UInt8.toNat_inj.1
            show (s[p]'hlt).toNat = 32
            omega
          have hbz : (BA cur).size = cur.length := BA_size cur
          have hq1 : (p : Int) ≤ (p : Int) + 1 := by omega
          have hq2 : (p : Int) + 1 ≤ (s.size : Int) := by omega
          have hq0 : (0 : Int) ≤ (p : Int) := by omega
          have HLE : Hid ((cur ++ [s[p]'hlt]).length ≤ p + 1) := by unfold Hid; rw [List.length_append]; simp; omega
          clear hsd HX1 h32 HA0 HZ0
          generalize hC : cur ++ [s[p]'hlt] = cur2 at *
          clear hC
          generalize hr : ((s[p]'hlt).toNat : Int) = r at *
          generalize hX : s.extract p (p + 1) = X at *
          go_wp2
          go_roundw
          case rel => exact ⟨p + 1, cur2, dn, by omega, by go_num, by rw [← HBA.out], HLE.out, by omega, HA, HZ, hown, hbel⟩
          case measure => simp [intOf]; omega
      · obtain rfl : p = s.size := by omega
        have hge : ¬ (s.size : Int) < (s.size : Int) := by omega
        have hsd := HSE.out cur
        have HA : Hid (s.size + 1 ≤ s.size → (dn ++ [cur]) ++ spl [] (s.data.toList.drop (s.size + 1)) = spl [] s.data.toList) := fun h => by omega
        have HZ : Hid (s.size + 1 = s.size + 1 → dn ++ [cur] = spl [] s.data.toList) := fun _ => by rw [← HA0.out hle, hsd]
        clear hsd HA0 HZ0 hcl0
        have H := HEX.out cur wr hcl
        have HP : Hid (pts ((dn ++ [cur]).map BA) = pts (dn.map BA) ++ pt (BA cur)) := by unfold Hid; rw [List.map_append, List.map_cons, List.map_nil, pts_snoc]
        have hpt : pt (BA cur) = if hexB (BA cur) then [hexN (BA cur)] else [] := rfl
        have hpl := pts_len (dn.map BA)
        rw [List.length_map] at hpl
        have HW : Hid (∀ j, u3.ownBlock = some j → w.heap.size ≤ j) := fun j e => (hown.lt _ e).1
        cases hx : hexB (BA cur) with
        | true =>
          rw [hx, if_pos rfl] at hpt
          rw [hx] at H
          rw [Hid, hpt] at HP
          have HP2 : Hid (pts ((dn ++ [cur]).map BA) = pts (dn.map BA) ++ [hexN (BA cur)]) := HP
          clear HP hpt hx
          generalize hexN (BA cur) = N at *
          generalize pts (dn.map BA) = M at *
          generalize BA cur = B at *
          go_wp2_with fail
          refine H.mono ?_
          rintro e w5 ⟨rfl, hw5⟩
          rw [hw5]
          clear hw5 w5 H
          go_wp2_with (at_builtin; refine wpList_append_own _ rfl _ _ 22 rfl w.heap.size 3 i0 (.int .i64 0) 1 8 Tryz.underlying22 hi hz0 hy1 hz2 rfl (by decide) _ _ _ rfl (hown.alloc _) ⟨wr.heap.size, 0, none⟩ 1 1 [.int .i64 N] rfl rfl ?c1 ?c2 ?c3 ?c4 ?c5 ?_)
          case c1 => exact one_icell wr _ _
          case c2 => intro u hu; simp at hu; subst hu; rfl
          case c3 => unfold maxLen; omega
          case c4 => omega
          case c5 => simp; omega
          intro v' w4 hown4 hgrow _
          have R2 := Below.grown (hbel.alloc hbs (.cells #[.int .i64 N] 3)) hgrow (by simp; omega) HW.out
          have R1 : w4.ownsRow w.heap.size 3 1 v' (pts ((dn ++ [cur]).map BA)).length ((pts ((dn ++ [cur]).map BA)).map (Value.int .i64)) := by
            rw [HP2.out, List.length_append, List.map_append]; exact hown4
          clear hown4 hgrow HP2
          go_wp2
          go_roundw
          case rel => exact ⟨s.size + 1, [], dn ++ [cur], by omega, by go_num, rfl, by simp, by simp; omega, HA, (fun _ => HZ.out trivial), R1, R2⟩
          case measure => first | (simp [intOf]; done) | (simp [intOf]; omega)
        | false =>
          rw [hx, if_neg (by decide)] at hpt
          rw [hx] at H
          have R1 : wr.ownsRow w.heap.size 3 1 u3 (pts ((dn ++ [cur]).map BA)).length ((pts ((dn ++ [cur]).map BA)).map (Value.int .i64)) := by
            rw [HP.out, hpt, List.append_nil]; exact hown
          clear HP hpt hx hown
          generalize hexN (BA cur) = N at *
          generalize BA cur = B at *
          go_wp2_with fail
          refine H.mono ?_
          rintro e w5 ⟨rfl, hw5⟩
          rw [hw5]
          clear hw5 w5 H
          go_wp2
          go_roundw
          case rel => exact ⟨s.size + 1, [], dn ++ [cur], by omega, by go_num, rfl, by simp, by simp; omega, HA, (fun _ => HZ.out trivial), R1, hbel⟩
          case measure => first | (simp [intOf]; done) | (simp [intOf]; omega)
    · obtain rfl : p = s.size + 1 := by omega
      have hge : ¬ ((s.size + 1 : Nat) : Int) ≤ (s.size : Int) := by omega
      have HD := HZ0.out rfl
      have HR : Hid (IOwn wr w.heap.size u3 (pts ((spl [] s.data.toList).map BA))) := by rw [← HD]; exact hown
      obtain ⟨ua, uc, rfl⟩ := own_slice hown
      clear hown HD HA0 HZ0
      generalize (pts (dn.map BA)).length = ml at *
      go_wp2
      go_ret
      exact ⟨_, rfl, HR.out, hbel⟩
end Go.Proofs.YtochajmhljipbaaGreatDoor.prp
end

section
/- The document's side: what a file says of a code point. -/
set_option linter.unusedVariables false
set_option linter.unusedSimpArgs false
namespace Go.Proofs.YtochajmhljipbaaGreatDoor.prp
open Go.RowKit Go.Maps lin

theorem first_drop {l : List RL} {k : Nat} {x : RL} (h : l[k]? = some x) (r : Int) : firstR (l.drop k) r = if inR x r then some x else firstR (l.drop (k + 1)) r := by
  have hk := (List.getElem?_eq_some_iff.1 h).1
  rw [List.drop_eq_getElem_cons hk, (List.getElem?_eq_some_iff.1 h).2, first_cons]
end Go.Proofs.YtochajmhljipbaaGreatDoor.prp
end

section
/- The document's tables in memory. -/
set_option linter.unusedVariables false
set_option linter.unusedSimpArgs false
namespace Go.Proofs.YtochajmhljipbaaGreatDoor.prp
open Go.RowKit Go.Maps lin

/-- v is a slice of lists of numbers, a row of its own from base on. -/
def LsAt (w : World) (base : Nat) (v : Value) (xss : List (List Int)) : Prop :=
  ∃ L : List (Value × List Int), L.map (·.2) = xss ∧ w.ownsRow base 22 1 v L.length (L.map (·.1)) ∧ ∀ q ∈ L, IOwn w base q.1 q.2
theorem iown_turnsT {D : Nat → Prop} {A B : World} {base : Nat} {v : Value} {xs : List Int} (t : TypeId) (ht : t ≠ 3) (h : IOwn A base v xs) (tt : Turns D A B) (hd : ∀ k, D k → k < base ∨ (∃ cur, A.heap[k]? = some (.cells cur t (0, 0)))) : IOwn B base v xs :=
  tt.own h (fun k e d => by
    obtain ⟨cur, hc⟩ := own_typed h k e
    rcases hd k d with hh | ⟨cur', hh⟩
    · have := (h.lt k e).1; omega
    · rw [hc] at hh; cases hh; exact ht rfl)
theorem LsAt.turns {D : Nat → Prop} {A B : World} {base : Nat} {v : Value} {xss : List (List Int)} (h : LsAt A base v xss) (t : Turns D A B) (hd : ∀ k, D k → k < base) : LsAt B base v xss := by
  obtain ⟨L, hL, ho, hf⟩ := h
  exact ⟨L, hL, t.own ho (fun k e d => by have := (ho.lt k e).1; have := hd k d; omega), fun q hq => iown_turnsT 22 (by decide) (hf q hq) t (fun k d => .inl (hd k d))⟩
theorem LsAt.kept {A B : World} {base : Nat} {v : Value} {xss : List (List Int)} (h : LsAt A base v xss) (hb : Below A.heap.size A B) : LsAt B base v xss := h.turns (D := fun _ => False) (.of_below hb) (fun _ h => h.elim)
theorem LsAt.nil (w : World) (base : Nat) : LsAt w base (.slice none 0 0) [] := ⟨[], rfl, World.ownsRow_nil _ _ _ _, fun _ h => by cases h⟩
theorem LsAt.push {A B : World} {base : Nat} {v v' : Value} {L : List (Value × List Int)} {fv : Value} {fs : List Int} (hf : ∀ q ∈ L, IOwn A base q.1 q.2) (ho : A.ownsRow base 22 1 v L.length (L.map (·.1))) (hF : IOwn A base fv fs) (hgrow : A.grownBy B v.ownBlock)
    (hown : B.ownsRow base 22 1 v' (L.length + 1) (L.map (·.1) ++ [fv])) : LsAt B base v' (L.map (·.2) ++ [fs]) := by
  have t : Turns (fun k => ∃ cur, A.heap[k]? = some (.cells cur 22 (0, 0))) A B := .of_grown hgrow (own_typed ho)
  refine ⟨L ++ [(fv, fs)], by rw [List.map_append]; rfl, by rw [List.length_append, List.map_append]; exact hown, fun q hq => ?_⟩
  rcases List.mem_append.1 hq with hq | hq
  · exact iown_turnsT 22 (by decide) (hf q hq) t (fun k d => .inr d)
  · obtain rfl := List.mem_singleton.1 hq
    exact iown_turnsT 22 (by decide) hF t (fun k d => .inr d)
/-- A slice of lists of numbers, as it is read. -/
def LV (w : World) (v : Value) (xss : List (List Int)) : Prop := ∃ b c, v = .slice (some ⟨b, 0, none⟩) xss.length c ∧ ∀ (j : Nat) xs, xss[j]? = some xs → ∃ u, w.cell? ⟨b, j, none⟩ = some u ∧ IV w u xs
theorem LsAt.lv {w : World} {base : Nat} {v : Value} {xss : List (List Int)} (h : LsAt w base v xss) (h0 : 0 < xss.length) : LV w v xss := by
  obtain ⟨L, hL, ho, hf⟩ := h
  have hl : L.length = xss.length := by rw [← hL, List.length_map]
  rcases ho.2 with hn | ⟨g, cap, cur, rfl, hg, hgg, h3, h4, h5, h6⟩
  · obtain ⟨_, hz⟩ := hn; omega
  · refine ⟨g, cap, by rw [hl], fun j xs hj => ?_⟩
    rw [← hL, List.getElem?_map] at hj
    cases hq : L[j]? with
    | none => rw [hq] at hj; cases hj
    | some q =>
      rw [hq] at hj
      cases hj
      refine ⟨q.1, ?_, (hf q (List.mem_of_getElem? hq)).iv⟩
      have hjl := (List.getElem?_eq_some_iff.1 hq).1
      rw [cell_of_row w g j cur _ _ hgg, ← Array.getElem?_toList, ← List.getElem?_take_of_lt (show j < L.length * 1 by omega), h6, List.getElem?_map, hq]
      rfl
theorem LV.below {w w' : World} {v : Value} {xss : List (List Int)} (h : LV w v xss) (hb : Below w.heap.size w w') : LV w' v xss := by
  obtain ⟨b, c, rfl, hc⟩ := h
  refine ⟨b, c, rfl, fun j xs hj => ?_⟩
  obtain ⟨u, h1, h2⟩ := hc j xs hj
  exact ⟨u, (hb.cell (p := ⟨b, j, none⟩) (World.block_lt_of_cell? w _ h1)).trans h1, h2.below hb⟩
def RecTab (w : World) (t i : Nat) (l : List RL) : Prop := ∃ v, w.cell? ⟨t, i, none⟩ = some v ∧ View w v (l.map recOf)
def LstTab (w : World) (t i : Nat) (xss : List (List Int)) : Prop := ∃ v, w.cell? ⟨t, i, none⟩ = some v ∧ LV w v xss
theorem RecTab.below {w w' : World} {t i : Nat} {l : List RL} (h : RecTab w t i l) (hb : Below w.heap.size w w') : RecTab w' t i l := by
  obtain ⟨v, h1, h2⟩ := h
  exact ⟨v, (hb.cell (p := ⟨t, i, none⟩) (World.block_lt_of_cell? w _ h1)).trans h1, h2.below hb (Nat.le_refl _)⟩
theorem LstTab.below {w w' : World} {t i : Nat} {xss : List (List Int)} (h : LstTab w t i xss) (hb : Below w.heap.size w w') : LstTab w' t i xss := by
  obtain ⟨v, h1, h2⟩ := h
  exact ⟨v, (hb.cell (p := ⟨t, i, none⟩) (World.block_lt_of_cell? w _ h1)).trans h1, h2.below hb⟩
def decR : List (List Int) := decL.map (fun x => rcp x 0)
def folR : List (List Int) := folL.map (fun x => rcp x 1)
/-- In block t lie the document's tables. -/
structure RTabs (w : World) (t : Nat) : Prop where
  cat : RecTab w t 0 catL
  com : RecTab w t 1 comL
  clu : RecTab w t 2 cluL
  wor : RecTab w t 3 worL
  scr : RecTab w t 4 scrL
  dec : RecTab w t 5 decL
  fol : RecTab w t 6 folL
  par : LstTab w t 7 decR
  fds : LstTab w t 8 folR
theorem RTabs.below {w w' : World} {t : Nat} (h : RTabs w t) (hb : Below w.heap.size w w') : RTabs w' t :=
  ⟨h.cat.below hb, h.com.below hb, h.clu.below hb, h.wor.below hb, h.scr.below hb, h.dec.below hb, h.fol.below hb, h.par.below hb, h.fds.below hb⟩
theorem cat_ok : 0 < catL.length ∧ catL.length ≤ 1000 ∧ ∀ x ∈ catL, 0 < x.2.2.length ∧ 0 < (x.2.2.getD 0 []).length := by decide +kernel
theorem scr_ok : 0 < scrL.length ∧ scrL.length ≤ 1000 ∧ ∀ x ∈ scrL, 0 < x.2.2.length ∧ 0 < (x.2.2.getD 0 []).length := by decide +kernel
theorem com_ok : 0 < comL.length ∧ comL.length ≤ 1000 ∧ ∀ x ∈ comL, 0 < x.2.2.length := by decide +kernel
theorem clu_ok : 0 < cluL.length ∧ cluL.length ≤ 1000 ∧ ∀ x ∈ cluL, 0 < x.2.2.length := by decide +kernel
theorem wor_ok : 0 < worL.length ∧ worL.length ≤ 1000 ∧ ∀ x ∈ worL, 0 < x.2.2.length := by decide +kernel
theorem dec_ok : 0 < decL.length ∧ decL.length ≤ 1000 ∧ ∀ x ∈ decL, 0 < x.2.2.length ∧ (x.2.2.getD 0 []).length ≤ 1000 := by decide +kernel
theorem fol_ok : 0 < folL.length ∧ folL.length ≤ 1000 ∧ ∀ x ∈ folL, 1 < x.2.2.length ∧ (x.2.2.getD 1 []).length ≤ 1000 := by decide +kernel
end Go.Proofs.YtochajmhljipbaaGreatDoor.prp
end

section
/- A round of the document's Load: a list of numbers more. -/
set_option linter.unusedVariables false
set_option linter.unusedSimpArgs false
namespace Go.Proofs.YtochajmhljipbaaGreatDoor.prp
open Go.RowKit Go.Maps lin

/-- In block T lies the struct vs. -/
def TB (w : World) (T : Nat) (vs : Array Value) : Prop := w.heap[T]? = some (.cells vs 72 (0, 0))
theorem TB.cell {w : World} {T : Nat} {vs : Array Value} (h : TB w T vs) (i : Nat) : w.cell? ⟨T, i, none⟩ = vs[i]? := cell_of_row w T i vs _ _ h
theorem TB.frozen {w : World} {T : Nat} {vs : Array Value} (h : TB w T vs) (i : Nat) : w.frozen? ⟨T, i, none⟩ = false := by
  unfold TB at h
  simp [World.frozen?, h]
theorem TB.set {w : World} {T : Nat} {vs : Array Value} (h : TB w T vs) (i : Nat) (v : Value) : TB (w.setCell ⟨T, i, none⟩ v) T (vs.setIfInBounds i v) := heap_setCell_same w T i vs _ v h
theorem TB.lt {w : World} {T : Nat} {vs : Array Value} (h : TB w T vs) : T < w.heap.size := (Array.getElem?_eq_some_iff.1 h).1
theorem turns_set (w : World) (T i : Nat) (v : Value) : Turns (fun k => k = T) w (w.setCell ⟨T, i, none⟩ v) := ⟨rfl, rfl, rfl, by simp, fun k _ hk => heap_setCell_other _ _ _ _ (fun e => hk e)⟩
theorem load_step (w0 wr w5 W W' : World) (T B i k : Nat) (vs : Array Value) (ua : Option Addr) (uc : Nat) (L : List (Value × List Int)) (rec : Obj) (cv : Value) (xs : List Int) (g cap : Nat)
    (hT : T = w0.heap.size) (hB : T + 1 ≤ B) (hB2 : B ≤ wr.heap.size + 1) (hlow : Below w0.heap.size w0 wr) (hTB : TB wr T vs) (hvi : vs[i]? = some (.slice ua k uc))
    (hown : wr.ownsRow B 22 1 (.slice ua k uc) L.length (L.map (·.1))) (hf : ∀ q ∈ L, IOwn wr B q.1 q.2)
    (hb5 : Below (wr.heap.size + 1) (wr.alloc rec) w5) (hcv : IOwn w5 (wr.heap.size + 1) cv xs)
    (bW : Below w5.heap.size w5 W)
    (how : W'.ownsRow B 22 1 (.slice (some ⟨g, 0, none⟩) (L.length + 1) cap) (L.length + 1) (L.map (·.1) ++ [cv]))
    (hgr : W.grownBy W' (Value.slice ua k uc).ownBlock) :
    (∀ b, b < T ∨ b = wr.heap.size → W'.heap[b]? = (wr.alloc rec).heap[b]?) ∧ W'.cell? ⟨T, i, none⟩ = some (.slice ua k uc) ∧ W'.frozen? ⟨T, i, none⟩ = false ∧
    TB (W'.setCell ⟨T, i, none⟩ (.slice (some ⟨g, 0, none⟩) (L.length + 1) cap)) T (vs.setIfInBounds i (.slice (some ⟨g, 0, none⟩) (L.length + 1) cap)) ∧
    LsAt (W'.setCell ⟨T, i, none⟩ (.slice (some ⟨g, 0, none⟩) (L.length + 1) cap)) B (.slice (some ⟨g, 0, none⟩) (L.length + 1) cap) (L.map (·.2) ++ [xs]) ∧
    Below w0.heap.size w0 (W'.setCell ⟨T, i, none⟩ (.slice (some ⟨g, 0, none⟩) (L.length + 1) cap)) ∧
    (∀ v xss, LsAt wr (T + 1) v xss → (∀ b, v.ownBlock = some b → b < B) → LsAt (W'.setCell ⟨T, i, none⟩ (.slice (some ⟨g, 0, none⟩) (L.length + 1) cap)) (T + 1) v xss) ∧ wr.heap.size ≤ (W'.setCell ⟨T, i, none⟩ (.slice (some ⟨g, 0, none⟩) (L.length + 1) cap)).heap.size := by
  have hlt := hTB.lt
  have hrow : ∀ j, (Value.slice ua k uc).ownBlock = some j → B ≤ j ∧ j < wr.heap.size := fun j e => hown.lt j e
  have hsz1 : (wr.alloc rec).heap.size = wr.heap.size + 1 := World.size_alloc _ _
  have b1 : Below wr.heap.size wr (wr.alloc rec) := (Below.refl _ wr).alloc (Nat.le_refl _) _
  have b15 : Below (wr.alloc rec).heap.size (wr.alloc rec) w5 := by rw [hsz1]; exact hb5
  have bW1 : Below (wr.alloc rec).heap.size (wr.alloc rec) W := b15.trans (bW.mono b15.size)
  have bWr : Below wr.heap.size wr W := b1.trans (bW1.mono b1.size)
  have t1 : Turns (fun k' => (Value.slice ua k uc).ownBlock = some k') (wr.alloc rec) W' := (Turns.of_below bW1).trans (.of_grown hgr (fun k e => e))
  have tw : Turns (fun k' => (Value.slice ua k uc).ownBlock = some k') wr W' := (Turns.of_below bWr).trans (.of_grown hgr (fun k e => e))
  have hTB' : TB W' T vs := (tw.block T hlt (fun e => by have := (hrow _ e).1; omega)).trans hTB
  have hz5 := b15.size
  have hls : LsAt W' B (.slice (some ⟨g, 0, none⟩) (L.length + 1) cap) (L.map (·.2) ++ [xs]) :=
    LsAt.push (A := W) (fun q hq => (hf q hq).below bWr) (own_below hown bWr) (own_lower (IOwn.below hcv bW) (by omega)) hgr how
  have ts := turns_set W' T i (.slice (some ⟨g, 0, none⟩) (L.length + 1) cap)
  refine ⟨fun b hb => t1.block b (by rw [hsz1]; omega) (fun e => by have := hrow b e; omega), by rw [hTB'.cell]; exact hvi, hTB'.frozen i, hTB'.set i _, hls.turns ts (fun k e => by omega), ?_, fun v xss hv hne => ?_, Nat.le_trans tw.size ts.size⟩
  · have : Below w0.heap.size wr W' := tw.below hlow.size (fun k e => by have := (hrow k e).1; omega)
    exact (hlow.trans this).trans (ts.below (by have := this.size; have := hlow.size; omega) (fun k e => by omega))
  · obtain ⟨M, hM, ho, hfM⟩ := hv
    have hty : ∀ j, (Value.slice ua k uc).ownBlock = some j → ∃ cur, wr.heap[j]? = some (.cells cur 22 (0, 0)) := own_typed hown
    have h1 : LsAt W' (T + 1) v xss := ⟨M, hM, tw.own ho (fun b e d => by have := hne b e; have := (hrow b d).1; omega), fun q hq => iown_turnsT 22 (by decide) (hfM q hq) tw (fun k d => .inr (hty k d))⟩
    exact h1.turns ts (fun k e => by omega)
end Go.Proofs.YtochajmhljipbaaGreatDoor.prp
end
