/- Rows of bytes in memory, as lists; parts of them; a copy of them; whether two are the same; bytes laid behind a row of the call's own. -/
import Derived.Test.YtpdkdfgcnhcmkaaProg
import Derived.WalkKit
import Derived.WalkSpells
import Derived.WalkLawsBesides
import Derived.Outline
import Derived.Deep.QuietTactic
import Derived.BigQuiet
import Derived.Lib.Bytes
import Derived.Lib.Walk
import Derived.Lib.SliceRun
import Derived.Maps.AppendAt
import Derived.Laws.AppendOwnNone
import Derived.Deep.AppendLies
set_option linter.unusedVariables false
set_option linter.unusedSimpArgs false
namespace Go.Proofs.Ytpdkdfgcnhcmkaa.edt
open Go.RowKit

theorem ret_int {k : IntKind} {a b : Int} (h : a = b) : Ending.returned (.int k a) = .returned (.int k b) := by rw [h]
theorem ret_bool {a b : Bool} (h : a = b) : Ending.returned (.bool a) = .returned (.bool b) := by rw [h]
theorem below_drewN {B : Nat} {a w : World} (h : Below B a w) (q : Nat) : Below B a (w.drewN q) := ⟨h.os, h.tape, h.output, h.size, h.block⟩
theorem info_parts {P : Program} {t : TypeId} {z : Value} {s b : Nat} (h : (P.info? t).map (fun i => (i.zero, i.size, i.bytes)) = some (some z, s, b)) : ∃ i, P.info? t = some i ∧ i.zero = some z ∧ i.size = s ∧ i.bytes = b := by
  cases hi : P.info? t with
  | none => rw [hi] at h; cases h
  | some i => rw [hi] at h; simp at h; exact ⟨i, rfl, h.1, h.2.1, h.2.2⟩
theorem infoByte : (Try.prog.info? 5).map (fun i => (i.zero, i.size, i.bytes)) = some (some (.int .u8 0), 1, 1) := by kernel_rfl
theorem own_below {w w' : World} {B e size n : Nat} {v : Value} {xs : List Value} (h : w.ownsRow B e size v n xs) (hb : Below w.heap.size w w') : w'.ownsRow B e size v n xs := by
  refine ⟨h.1, ?_⟩
  rcases h.2 with hn | ⟨g, cap, cur, rfl, hg, hgg, rest⟩
  · exact .inl hn
  · exact .inr ⟨g, cap, cur, rfl, hg, by rw [hb.block g (Array.getElem?_eq_some_iff.1 hgg).1]; exact hgg, rest⟩
theorem own_mono {w : World} {B B' e size n : Nat} {v : Value} {xs : List Value} (h : w.ownsRow B e size v n xs) (hB : B' ≤ B) : w.ownsRow B' e size v n xs := by
  refine ⟨h.1, ?_⟩
  rcases h.2 with hn | ⟨g, cap, cur, rfl, hg, rest⟩
  · exact .inl hn
  · exact .inr ⟨g, cap, cur, rfl, Nat.le_trans hB hg, rest⟩
theorem own_apart {w : World} {B B' : Nat} {e e' : TypeId} {s s' n n' : Nat} {v v' : Value} {xs xs' : List Value} (h : w.ownsRow B e s v n xs) (h' : w.ownsRow B' e' s' v' n' xs') (hne : e ≠ e') : v.ownBlock = none ∨ v.ownBlock ≠ v'.ownBlock := by
  rcases h.2 with ⟨rfl, _⟩ | ⟨g, c, cur, rfl, _, hg, _⟩
  · exact .inl rfl
  · rcases h'.2 with ⟨rfl, _⟩ | ⟨g', c', cur', rfl, _, hg', _⟩
    · exact .inr (fun e => by cases e)
    · refine .inr (fun e0 => ?_)
      have e1 : g = g' := by simpa [Value.ownBlock] using e0
      subst e1
      rw [hg] at hg'
      injection hg' with hg'
      injection hg' with h1 h2
      exact hne h2
theorem own_slice {w : World} {B e s n : Nat} {v : Value} {xs : List Value} (h : w.ownsRow B e s v n xs) : ∃ ao cap, v = .slice ao n cap := by
  rcases h.2 with ⟨rfl, h0⟩ | ⟨g, cap, cur, rfl, _⟩
  · exact ⟨none, 0, by rw [h0]⟩
  · exact ⟨_, cap, rfl⟩

/-- From the address on lie n bytes, those of the list. -/
structure BS (w : World) (ao : Option Addr) (n cap : Nat) (l : List Int) : Prop where
  len : l.length = n
  nc : n ≤ cap
  cm : cap ≤ 9223372036854775807
  nil : ao = none → cap = 0
  rg : ∀ i, 0 ≤ l.getD i 0 ∧ l.getD i 0 ≤ 255
  cell : n = 0 ∨ ∃ b off, ao = some ⟨b, off, none⟩ ∧ ∀ i, i < n → w.cell? ⟨b, off + i, none⟩ = some (.int .u8 (l.getD i 0))
theorem BS.below {w w' : World} {ao : Option Addr} {n cap : Nat} {l : List Int} (h : BS w ao n cap l) (hb : Below w.heap.size w w') : BS w' ao n cap l := by
  refine ⟨h.len, h.nc, h.cm, h.nil, h.rg, ?_⟩
  rcases h.cell with k | ⟨b, off, rfl, k⟩
  · exact .inl k
  · exact .inr ⟨b, off, rfl, fun i hi => (hb.cell (World.block_lt_of_cell? w _ (k i hi))).trans (k i hi)⟩
theorem BS.at_ {w : World} {ao : Option Addr} {n cap : Nat} {l : List Int} (h : BS w ao n cap l) (h0 : 0 < n) : ∃ b off, ao = some ⟨b, off, none⟩ ∧ ∀ i, i < n → w.cell? ⟨b, off + i, none⟩ = some (.int .u8 (l.getD i 0)) := by
  rcases h.cell with h | h
  · omega
  · exact h
theorem BS.none_ {w : World} {n cap : Nat} {l : List Int} (h : BS w none n cap l) : n = 0 ∧ cap = 0 ∧ l = [] := by
  have := h.nil rfl
  have := h.nc
  have h3 := h.len
  exact ⟨by omega, by omega, List.eq_nil_of_length_eq_zero (by omega)⟩
theorem getD_sub (l : List Int) (a k i : Nat) : ((l.drop a).take k).getD i 0 = if i < k then l.getD (a + i) 0 else 0 := by
  rw [List.getD_eq_getElem?_getD, List.getElem?_take]
  split
  · rw [List.getElem?_drop, List.getD_eq_getElem?_getD]
  · rfl
/-- Bytes from one place to another. -/
theorem BS.sub {w : World} {ao : Option Addr} {n cap : Nat} {l : List Int} (h : BS w ao n cap l) (a c : Nat) (hac : a ≤ c) (hcn : c ≤ n) : BS w (if cap = a then ao else ao.map (fun x => x.add a)) (c - a) (cap - a) ((l.drop a).take (c - a)) := by
  have h1 := h.len
  have h2 := h.nc
  have h3 := h.cm
  refine ⟨by rw [List.length_take, List.length_drop]; omega, by omega, by omega, ?_, ?_, ?_⟩
  · intro e
    split at e
    · have := h.nil e; omega
    · cases ao with
      | none => have := h.nil rfl; omega
      | some x => cases e
  · intro i
    rw [getD_sub]
    split
    · exact h.rg _
    · omega
  · rcases Nat.eq_zero_or_pos (c - a) with h0 | h0
    · exact .inl h0
    · obtain ⟨b, off, rfl, hc⟩ := h.at_ (by omega)
      refine .inr ⟨b, off + a, ?_, fun i hi => ?_⟩
      · rw [if_neg (by omega)]; simp [Addr.add]
      · rw [getD_sub, if_pos hi, Nat.add_assoc]; exact hc (a + i) (by omega)
theorem BS.nilv (w : World) : BS w none 0 0 [] := ⟨rfl, Nat.le_refl _, by omega, fun _ => rfl, fun i => by simp, .inl rfl⟩

/-- The value reads as these bytes: what its conversion to a string gives. -/
def Bts (w : World) (v : Value) (xs : List Int) : Prop := (convert 25 9 v).run Try.prog w = .ok (.string (strOfNums xs)) w
theorem BS.bts {w : World} {ao : Option Addr} {n cap : Nat} {l : List Int} (h : BS w ao n cap l) : Bts w (.slice ao n cap) l := by
  have hl := h.len
  rcases h.cell with h0 | ⟨b, off, rfl, hc⟩
  · obtain rfl : l = [] := List.eq_nil_of_length_eq_zero (by omega)
    subst h0
    cases ao with
    | none => exact run_convert_bytes_nil (P := Try.prog) w 25 5 Try.underlying25 Try.underlying5 0 cap 9 Try.underlying9
    | some x =>
      obtain ⟨b, off, s⟩ := x
      have h0 : (loadCells ⟨b, off, s⟩ 0).run Try.prog w = .ok #[] w := by
        have := run_loadCells_list (P := Try.prog) w ⟨b, off, s⟩ [] (fun j v hj => by simp at hj)
        simpa using this
      unfold Bts
      rw [run_convert_bytes_string w 25 9 5 _ 0 cap Try.underlying25 Try.underlying5 Try.underlying9]
      rw [run_bytesToString w _ 0 cap [] (by simpa using h0)]
      rfl
  · exact run_convert_bytes_arg (P := Try.prog) w 25 5 Try.underlying25 Try.underlying5 b off n cap l hl (fun i hi => hc i (by omega)) 9 Try.underlying9

theorem beq_any (v1 v2 : Value) (xs ys : List Int) (w : World) (h1 : Bts w v1 xs) (h2 : Bts w v2 ys) :
    Calls Try.prog 32 #[v1, v2] w fun e w' => e = .returned (.bool (Lib.bytesOf xs == Lib.bytesOf ys)) ∧ w' = w := by
  unfold Bts at h1 h2
  rw [← Lib.strOfNums_toList, ← Lib.strOfNums_toList]
  go_enter Try.func32, Try.ntmps32
  go_wp2
  go_ret
  exact ⟨rfl, rfl⟩
theorem beq_same (v1 v2 : Value) (xs : List Int) (w : World) (h1 : Bts w v1 xs) (h2 : Bts w v2 xs) :
    Calls Try.prog 32 #[v1, v2] w fun e w' => e = .returned (.bool true) ∧ w' = w := by
  have := beq_any v1 v2 xs xs w h1 h2
  simpa using this

/-- v is a row of the call's own, of the bytes l. -/
def OB (w : World) (B : Nat) (v : Value) (l : List Int) : Prop := w.ownsRow B 5 1 v l.length (l.map (Value.int .u8))
theorem OB.below {w w' : World} {B : Nat} {v : Value} {l : List Int} (h : OB w B v l) (hb : Below w.heap.size w w') : OB w' B v l := own_below h hb
theorem OB.mono {w : World} {B B' : Nat} {v : Value} {l : List Int} (h : OB w B v l) (hB : B' ≤ B) : OB w B' v l := own_mono h hB
theorem OB.nil (w : World) (B : Nat) : OB w B (.slice none 0 0) [] := World.ownsRow_nil _ _ _ _
theorem OB.bs {w : World} {B : Nat} {v : Value} {l : List Int} (h : OB w B v l) (hr : ∀ i, 0 ≤ l.getD i 0 ∧ l.getD i 0 ≤ 255) : ∃ ao cap, v = .slice ao l.length cap ∧ BS w ao l.length cap l := by
  have h' := h
  rcases h.2 with ⟨rfl, h0⟩ | ⟨g, cap, cur, rfl, _, _, hc, hm, _⟩
  · obtain rfl := List.eq_nil_of_length_eq_zero h0
    exact ⟨none, 0, rfl, BS.nilv w⟩
  · unfold maxLen at hm
    refine ⟨some ⟨g, 0, none⟩, cap, rfl, ⟨rfl, hc, by omega, (fun e => by cases e), hr, .inr ⟨g, 0, rfl, fun i hi => ?_⟩⟩⟩
    rw [Nat.zero_add, World.ownsRow.cellAt h' i (by omega)]
    simp [hi]
theorem u8_one (l : List Int) : ∀ u ∈ l.map (Value.int .u8), u.oneCell' = true := by
  intro u hu; simp at hu; obtain ⟨x, _, rfl⟩ := hu; rfl
theorem BS.news {w : World} {ad : Addr} {n cap : Nat} {l : List Int} (h : BS w (some ad) n cap l) : ∀ (j : Nat) (u : Value), (l.map (Value.int .u8))[j]? = some u → w.cell? (ad.add j) = some u := by
  intro j u hj
  have hl := h.len
  have hjn : j < n := by
    rcases Nat.lt_or_ge j n with h | h
    · exact h
    · rw [List.getElem?_eq_none (by simpa [hl] using h)] at hj; simp at hj
  obtain ⟨b, off, e, hc⟩ := h.at_ (by omega)
  cases e
  rw [List.getElem?_map] at hj
  obtain ⟨x, hx, rfl⟩ := Option.map_eq_some_iff.1 hj
  rw [Addr.add_lit, hc j hjn, List.getD_eq_getElem?_getD, hx]
  rfl

/-- append(dst, src...), dst the call's own, src bytes that can be read. -/
theorem wpList_app {w : World} {ops : Array Oper} {rest : List Oper} {o : Oper} {a : Act} {Q : Exit → Act → World → Prop} (hgd : o.guard = none) (s x : Operand)
    (ho : o.op = .call { callee := .builtin .append, args := #[s, x], argTypes := #[25, 25] })
    (B : Nat) (v : Value) (l : List Int) (hs : a.eval s = v) (hown : OB w B v l)
    (ao : Option Addr) (n c : Nat) (r : List Int) (hx : a.eval x = .slice ao n c) (hr : BS w ao n c r)
    (hlen : l.length + n ≤ 140737488355328) (hbase : B ≤ w.heap.size)
    (h : ∀ v' w', OB w' B v' (l ++ r) → w.grownBy w' v.ownBlock → (v'.ownBlock = v.ownBlock ∨ v'.ownBlock = some w.heap.size) → wpList Try.prog ops Q rest (a.put o.dst v') w') : wpList Try.prog ops Q (o :: rest) a w := by
  obtain ⟨i, hi, hz, hsize, hby⟩ := info_parts infoByte
  cases ao with
  | none =>
    obtain ⟨rfl, rfl, rfl⟩ := hr.none_
    refine wpList_append_own_none hgd s x 25 ho B 5 i 1 Try.underlying25 hi v l.length _ hs hown hx (h v w ?_ ⟨rfl, rfl, rfl, Nat.le_refl _, fun _ _ _ => rfl⟩ (.inl rfl))
    rw [List.append_nil]; exact hown
  | some ad =>
    refine wpList_append_own_at w hgd s x 25 ho B 5 i (.int .u8 0) 1 1 Try.underlying25 hi hz hsize hby rfl (by decide) v l.length _ hs hown ad n c (r.map (Value.int .u8)) hx (by simpa using hr.len) hr.news (u8_one r) (by unfold maxLen; omega) (by omega) hbase (fun v' w' h2 h3 _ h5 => h v' w' ?_ h3 h5)
    unfold OB
    rw [List.length_append, hr.len, List.map_append]; exact h2

theorem clone_nil (cap : Nat) (w : World) :
    Calls Try.prog 16 #[.slice none 0 cap] w fun e w' => e = .returned (.slice none 0 0) ∧ w' = w := by
  have he := fun (w : World) (a : Option Addr) (n c : Nat) => Lib.run_eql_slice_nil (P := Try.prog) w 25 5 a n c 0 0 Try.underlying25
  go_enter Try.func16, Try.ntmps16
  go_wp2
  go_ret
  exact ⟨rfl, rfl⟩
theorem clone_some (ad : Addr) (n cap : Nat) (l : List Int) (w : World) (hB : BS w (some ad) n cap l) (hn : n ≤ 140737488355328) :
    Calls Try.prog 16 #[.slice (some ad) n cap] w fun e w' => ∃ v, e = .returned v ∧ OB w' w.heap.size v l ∧ Below w.heap.size w w' := by
  have he := fun (w : World) (a : Option Addr) (n c : Nat) => Lib.run_eql_slice_nil (P := Try.prog) w 25 5 a n c 0 0 Try.underlying25
  have HB : Hid (∀ o : Obj, BS (w.alloc o) (some ad) n cap l) := fun o => hB.below ((Below.refl _ _).alloc (Nat.le_refl _) o)
  clear hB
  go_enter Try.func16, Try.ntmps16
  go_wp2_with (at_builtin; refine wpList_app rfl _ _ rfl w.heap.size _ [] rfl (World.ownsRow_lit (base := w.heap.size) (e := 5) (size := 1) w #[] 0 (Nat.le_refl _) (by decide) rfl) (some ad) n cap l rfl (HB.out _) ?c3 ?c5 ?_)
  case c3 => simpa using hn
  case c5 => simp
  · intro v' w1 hown hgrow _
    have R2 := Below.grown ((Below.refl w.heap.size w).alloc (Nat.le_refl _) (.cells #[] 5)) hgrow (by simp) (fun k hk => by simp [Value.ownBlock] at hk; omega)
    have R1 : OB w1 w.heap.size v' l := by simpa using hown
    clear hown hgrow
    go_wp2
    go_ret
    exact ⟨_, rfl, R1, R2⟩
/-- A clone reads as the row that it is of. -/
theorem clone_any (ao : Option Addr) (n cap : Nat) (l : List Int) (w : World) (hB : BS w ao n cap l) (hn : n ≤ 140737488355328) :
    Calls Try.prog 16 #[.slice ao n cap] w fun e w' => ∃ v, e = .returned v ∧ OB w' w.heap.size v l ∧ Below w.heap.size w w' := by
  cases ao with
  | none =>
    obtain ⟨rfl, rfl, rfl⟩ := hB.none_
    refine (clone_nil 0 w).mono ?_
    rintro e w' ⟨rfl, rfl⟩
    exact ⟨_, rfl, OB.nil _ _, Below.refl _ _⟩
  | some ad => exact clone_some ad n cap l w hB hn
end Go.Proofs.Ytpdkdfgcnhcmkaa.edt
