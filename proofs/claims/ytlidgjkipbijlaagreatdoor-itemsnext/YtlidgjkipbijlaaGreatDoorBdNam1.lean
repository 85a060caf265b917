/- Texts that the proof leans on, one behind the other. -/
import Derived.Test.YtlidgjkipbijlaaGreatDoorBdLin1
import Derived.Maps.OwnSet
import Derived.DeepKeys4
import Derived.Test.YtlidgjkipbijlaaGreatDoorBdLin3
import Derived.Deep.RegionHeld
import Derived.Deep.RegionHeld3
import Derived.Lib.AppendStr
import Derived.Lib.AsciiSet
import Derived.Lib.Builder
import Derived.Lib.FrozenHead
import Derived.OrdersIn

section
/- Maps as functions of their keys. -/
set_option linter.unusedVariables false
set_option linter.unusedSimpArgs false
namespace Go.Proofs.YtlidgjkipbijlaaGreatDoor.nam
open Go.Maps Go.RowKit lin

/-- Every value reads as itself. -/
def hold (v : Value) : Option (DataW Value × List MemPlace) := some (.held v, [])

/-- Keys: how they are written as values, and which of them may be keys. -/
structure KeyE (P : Program) (k : TypeId) {κ : Type} (ek : κ → Value) (ok : κ → Prop) : Prop where
  keyed : Keyed P k
  reads : ∀ x, ok x → ∃ l, keyOf P k (ek x) = some l
  inj : ∀ x y, ek x = ek y → x = y

/-- Block b is a map of at most n entries: f says what stands at a key. -/
def Mp (P : Program) (k : TypeId) {κ : Type} (ek : κ → Value) (ok : κ → Prop) (w : World) (b n : Nat) (f : κ → Option Value) : Prop :=
  ∃ D : DataW Value, w.ownsMap P k hold b n D ∧ ∀ x l, ok x → keyOf P k (ek x) = some l → (f x = none → ∀ z, D.atKey l z = z) ∧ (∀ v, f x = some v → ∀ z, D.atKey l z = .held v)

section
variable {P : Program} {k : TypeId} {κ : Type} {ek : κ → Value} {ok : κ → Prop} {w : World} {b n : Nat} {f : κ → Option Value}
theorem Mp.made (w : World) : Mp P k ek ok (w.alloc (.map #[] 0)) w.heap.size 0 (fun _ => none) :=
  ⟨_, World.ownsMap_made w P k hold, fun x l _ _ => ⟨fun _ z => rfl, fun v h => by cases h⟩⟩
theorem Mp.lt (h : Mp P k ek ok w b n f) : b < w.heap.size := by obtain ⟨D, h, _⟩ := h; exact h.lt
theorem Mp.turns {D : Nat → Prop} {w' : World} (h : Mp P k ek ok w b n f) (t : Turns D w w') (hd : ¬ D b) : Mp P k ek ok w' b n f := by
  obtain ⟨M, ⟨es, clock, hb, F, hs, hD⟩, hf⟩ := h
  exact ⟨M, ⟨es, clock, (t.block b (Array.getElem?_eq_some_iff.1 hb).1 hd).trans hb, F, hs, hD⟩, hf⟩
theorem Mp.below {w' : World} (h : Mp P k ek ok w b n f) (t : Below w.heap.size w w') : Mp P k ek ok w' b n f := h.turns (D := fun _ => False) (.of_below t) id
theorem Mp.mono {n' : Nat} (h : Mp P k ek ok w b n f) (hn : n ≤ n') : Mp P k ek ok w b n' f := by
  obtain ⟨M, h, hf⟩ := h
  exact ⟨M, h.mono hn, hf⟩
theorem Mp.look (h : Mp P k ek ok w b n f) (K : KeyE P k ek ok) {t e : TypeId} (ht : P.underlying t = some (.map k e)) {z : Value} (hz : (zeroValue e).run P w = .ok z w) {x : κ} (hx : ok x) :
    (Instr.lookup t (.map (some b)) (ek x) true).run P w = .ok (.tuple #[(f x).getD z, .bool (f x).isSome]) w := by
  obtain ⟨D, hown, hf⟩ := h
  obtain ⟨l, hl⟩ := K.reads x hx
  obtain ⟨v, ps, hrun, hv⟩ := hown.look_ok K.keyed ht hz (zd := .held z) (zp := []) rfl hl
  obtain ⟨h1, h2⟩ := hf x l hx hl
  simp only [hold, Option.some.injEq, Prod.mk.injEq] at hv
  rw [hrun]
  cases hfx : f x with
  | none =>
    have h3 := h1 hfx
    have e1 : v = z := by have := hv.1.trans (h3 (.held z)); cases this; rfl
    rw [e1, has_false_of_atKey h3]; rfl
  | some u =>
    have h3 := h2 u hfx
    have e1 : v = u := by have := hv.1.trans (h3 (.held z)); cases this; rfl
    rw [e1, has_true_of_atKey h3]; rfl
theorem Mp.look1 (h : Mp P k ek ok w b n f) (K : KeyE P k ek ok) {t e : TypeId} (ht : P.underlying t = some (.map k e)) {z : Value} (hz : (zeroValue e).run P w = .ok z w) {x : κ} (hx : ok x) :
    (Instr.lookup t (.map (some b)) (ek x) false).run P w = .ok ((f x).getD z) w := by
  obtain ⟨D, hown, hf⟩ := h
  obtain ⟨l, hl⟩ := K.reads x hx
  obtain ⟨v, ps, hrun, hv⟩ := hown.lookup K.keyed ht hz (zd := .held z) (zp := []) rfl hl
  obtain ⟨h1, h2⟩ := hf x l hx hl
  simp only [hold, Option.some.injEq, Prod.mk.injEq] at hv
  rw [hrun]
  cases hfx : f x with
  | none =>
    have e1 : v = z := by have := hv.1.trans (h1 hfx (.held z)); cases this; rfl
    rw [e1]; rfl
  | some u =>
    have e1 : v = u := by have := hv.1.trans (h2 u hfx (.held z)); cases this; rfl
    rw [e1]; rfl

def upd [DecidableEq κ] (f : κ → Option Value) (x : κ) (v : Value) : κ → Option Value := fun y => if y = x then some v else f y
theorem Mp.put [DecidableEq κ] (h : Mp P k ek ok w b n f) (K : KeyE P k ek ok) {t e : TypeId} (ht : P.underlying t = some (.map k e)) (hn : n < maxLen) {x : κ} (hx : ok x) (v : Value) :
    ∃ w', (Instr.mapUpdate t (.map (some b)) (ek x) v).run P w = .ok () w' ∧ Mp P k ek ok w' b (n + 1) (upd f x v) ∧ w.mapTurned w' b := by
  obtain ⟨D, hown, hf⟩ := h
  obtain ⟨l, hl⟩ := K.reads x hx
  have hm := hown.isMap
  obtain ⟨w', hrun, hown', hturn⟩ := hown.store K.keyed ht hn (val := v) (d := .held v) (ps := []) hl rfl
  refine ⟨w', hrun, ⟨_, hown', fun y l' hy hl' => ?_⟩, hturn⟩
  by_cases hyx : y = x
  · subst hyx
    obtain rfl : l = l' := by rw [hl] at hl'; cases hl'; rfl
    have e1 : upd f y v y = some v := by unfold upd; rw [if_pos rfl]
    rw [e1]
    exact ⟨fun h => (by cases h), fun u hu z => (by cases hu; exact atKey_put_same hm (K.keyed.key hl) _ z)⟩
  · have hne : l' ≠ l := fun e => hyx (K.inj _ _ (K.keyed.inj hl' (e ▸ hl)))
    have e1 : upd f x v y = f y := by unfold upd; rw [if_neg hyx]
    rw [e1]
    obtain ⟨h1, h2⟩ := hf y l' hy hl'
    exact ⟨fun h z => by rw [atKey_put_other hne]; exact h1 h z, fun u hu z => by rw [atKey_put_other hne]; exact h2 u hu z⟩
end
end Go.Proofs.YtlidgjkipbijlaaGreatDoor.nam
end

section
/- Small facts on texts as lists of bytes. -/
set_option linter.unusedVariables false
set_option linter.unusedSimpArgs false
namespace Go.Proofs.YtlidgjkipbijlaaGreatDoor.nam
open Go.RowKit lin

theorem beqT2 {k L : List UInt8} (h : k = L) : ((BA k).toList == (BA L).toList) = true := by rw [h]; exact beq_self_eq_true _
theorem beqF2 {k L : List UInt8} (h : ¬ k = L) : ((BA k).toList == (BA L).toList) = false := by rw [beq_eq_false_iff_ne, Lib.toList_data, Lib.toList_data, BA_data, BA_data]; exact h
theorem BA_app (a b : List UInt8) : BA a ++ BA b = BA (a ++ b) := by
  apply ByteArray.ext
  show (BA a ++ BA b).data = _
  rw [ByteArray.data_append]
  simp [BA]
theorem ext_one (s : ByteArray) (k : Nat) (h : k < s.size) : s.extract k (k + 1) = BA [s[k]'h] := by
  rw [ext_list, drop_cons s k h]
  simp
end Go.Proofs.YtlidgjkipbijlaaGreatDoor.nam
end

section
/- A region that draws its order, inside a round of a range over a function: it goes as everywhere, if no operation of it is a defer statement. -/
set_option linter.unusedVariables false
namespace Go.Proofs.YtlidgjkipbijlaaGreatDoor.nam

theorem wpIn_round_of {P : Program} {o : Oper} {l n : Nat} {a : Act} {w : World} {K : Act → World → Prop} {Q : Exit → Act → World → Prop} (hd : ∀ c, o.op ≠ .defer c) (hL : ¬ LetsOut Q)
    (h : o.wp P a w K Q) : o.wpIn (Fence.wide.inRound l) n P a w K Q := by
  refine ⟨fun _ _ => trivial, ?_⟩
  rw [Oper.semAt_eq _ _ _ hd]
  unfold Oper.wp at h
  generalize (execOp a.eval o).run P w = r at h
  cases r with
  | ok x w' =>
    cases x <;> simp only [Oper.upon, Oper.uponIn] at h ⊢ <;> try exact h
    · exact ⟨fun h => by simp [Fence.wide, Fence.inRound] at h, CallsIn.mono (callsIn_wide.2 h : CallsIn Fence.wide (n - 1) P _ _ _ _) fun e w2 he => by cases e <;> exact he⟩
    · exact ⟨fun h => by simp [Fence.wide, Fence.inRound] at h, fun c cs _ => let ⟨v, w2, r, s⟩ := h c cs; ⟨v, w2, r, stepsIn_wide.2 s⟩⟩
  | halt x w' => cases x <;> simp only [Oper.upon, Oper.uponIn] at h ⊢ <;> exact h

theorem wpAnyIn_round {P : Program} {ops : Array Oper} {l n : Nat} {md : Region.Mode} {Q : Exit → Act → World → Prop} (hd : ∀ o ∈ ops.toList, ∀ c, o.op ≠ .defer c) (hL : ¬ LetsOut Q) :
    ∀ (fuel : Nat) (listed : Array Bool) (a : Act) (w : World), wpAny P md ops Q fuel listed a w → wpAnyIn (Fence.wide.inRound l) n P md ops Q fuel listed a w
  | 0, _, _, _, h => h
  | fuel + 1, listed, a, w, h => ⟨h.1, fun i hi => by
      have h2 := h.2 i hi
      unfold wpOp at h2
      unfold wpOpIn
      cases ho : ops[i]? with
      | none => rw [ho] at h2; exact wpAnyIn_round hd hL fuel _ _ _ h2
      | some o =>
        rw [ho] at h2
        simp only at h2 ⊢
        have hdo : ∀ c, o.op ≠ .defer c := hd o (Array.mem_toList_iff.2 (Array.mem_of_getElem? ho))
        split
        · rename_i hw
          rw [if_pos hw] at h2
          rcases h2 with h2 | ⟨_, h2⟩
          · exact wpIn_round_of hdo hL (Oper.wp_mono (fun a' w' h' => wpAnyIn_round hd hL fuel _ a' w' h') h2)
          · exact absurd h2 hL
        · rename_i hw
          rw [if_neg hw] at h2
          exact ⟨fun _ _ => trivial, wpAnyIn_round hd hL fuel _ _ _ h2⟩⟩

/-- No operation of it is a defer statement. -/
def noDefer (ops : Array Oper) : Bool := ops.toList.all fun o => match o.op with | .defer _ => false | _ => true
theorem noDefer_spec {ops : Array Oper} (h : noDefer ops = true) : ∀ o ∈ ops.toList, ∀ c, o.op ≠ .defer c := fun o ho c e => by
  have := List.all_eq_true.1 h o ho
  simp [e] at this

/-- The beginning. -/
theorem wpIn_region_round {P : Program} {ops : Array Oper} {id l n : Nat} {Q : Exit → Act → World → Prop} {S : World → Prop} {a : Act} {w : World} (hm : P.follows .mixedOrders = true) (hd : noDefer ops = true) (hL : ¬ LetsOut Q) (hS : S w.drew)
    (h : S w.drew → wpAnyH P .any ops Q S ops.size (Array.replicate ops.size false) a w.drew) : (Code.region id ops true).wpIn (Fence.wide.inRound l) n P Q a w :=
  wpIn_region_any hm (wpAnyIn_round (noDefer_spec hd) hL _ _ _ _ (wpAny_of_held _ _ _ _ (h hS)))
end Go.Proofs.YtlidgjkipbijlaaGreatDoor.nam
end
