/- What bytes.Join answers of texts; spans replaced by a text, and by themselves. -/
import Derived.Test.YtfnndnlhdfjggaaJoinShelf
import Derived.Test.YtfnndnlhdfjggaaEdtRepl2
import Derived.Test.YtfnndnlhdfjggaaEdtSame
set_option linter.unusedVariables false
set_option linter.unusedSimpArgs false
namespace Go.Proofs.Ytfnndnlhdfjggaa.edt
open Go.RowKit

theorem byte_back {x : Int} (h : 0 ≤ x ∧ x ≤ 255) : ((UInt8.ofNat x.toNat).toNat : Int) = x := by
  rw [UInt8.toNat_ofNat', Nat.mod_eq_of_lt (by omega)]; omega
theorem BS.holds {w : World} {ao : Option Addr} {n cap : Nat} {l : List Int} (h : BS w ao n cap l) : Lib.HoldsBytes w (.slice ao n cap) (Lib.bytesOf l) := by
  refine ⟨ao, cap, by rw [Lib.bytesOf_length, h.len], ?_, ?_⟩
  · intro e; subst e; rw [h.none_.2.2]; rfl
  · intro a e i x hx
    subst e
    unfold Lib.bytesOf at hx
    rw [List.getElem?_map] at hx
    obtain ⟨z, hz, rfl⟩ := Option.map_eq_some_iff.1 hx
    have hr := mem_range h.rg z (List.mem_of_getElem? hz)
    rw [byte_back hr]
    exact h.news i (.int .u8 z) (by rw [List.getElem?_map, hz]; rfl)
theorem fresh_bts {B : Nat} {w : World} {v : Value} {l : List UInt8} (h : Lib.FreshBytes B w v l) : ∃ xs, Bts w v xs ∧ Lib.bytesOf xs = l := by
  obtain ⟨g, cap, zs, rfl, _, hlc, _, hzl, hr, hb, hc, _⟩ := h
  refine ⟨zs.take l.length, ?_, hb⟩
  have hlen : (zs.take l.length).length = l.length := by rw [List.length_take]; omega
  exact run_convert_bytes_arg (P := Try.prog) w 22 5 Try.underlying22 Try.underlying5 g 0 l.length cap (zs.take l.length) hlen (fun i hi => by
    rw [Nat.zero_add, hc i (by omega), List.getD_eq_getElem?_getD, List.getD_eq_getElem?_getD, List.getElem?_take, if_pos hi]) 9 Try.underlying9

theorem join_any (B g c : Nat) (ts : List Tx) (sa : Option Addr) (sn sc : Nat) (sep : List Int) (w : World) (hR : RB w B (.slice (some ⟨g, 0, none⟩) ts.length c) ts) (hby : ∀ t ∈ ts, Byt t.2) (hS : BS w sa sn sc sep) (h1 : 1 ≤ ts.length) (hn : ts.length ≤ 1048577) (hsn : sn ≤ 1048576) (hlen : Lib.lens ((ts.map Prod.snd).map Lib.bytesOf) ≤ 1048576) :
    Calls Try.prog 21 #[.slice (some ⟨g, 0, none⟩) ts.length c, .slice sa sn sc] w fun e w' => ∃ v' xs, e = .returned v' ∧ Bts w' v' xs ∧ Lib.bytesOf xs = Lib.join ((ts.map Prod.snd).map Lib.bytesOf) (Lib.bytesOf sep) ∧ Below w.heap.size w w' := by
  have hrow := hR.row
  have cell : ∀ i (hi : i < ts.length), w.cell? ⟨g, i, none⟩ = some (ts[i]).1 := fun i hi => by
    rw [hrow.cellAt i (by omega), List.getElem?_map, List.getElem?_eq_getElem hi, Option.map_some]
  have hcap : ts.length ≤ c := by
    rcases hrow.2 with ⟨e, _⟩ | ⟨g', cap', cur, e, _, _, hc, _⟩
    · cases e
    · cases e; exact hc
  rcases Nat.lt_or_ge 1 ts.length with h2 | h2
  · have hP : Lib.PartsAt w ⟨g, 0, none⟩ (ts.map Prod.fst) ((ts.map Prod.snd).map Lib.bytesOf) := by
      refine ⟨by simp, fun i v hv => ?_, fun i v l hv hl => ?_⟩
      · rw [List.getElem?_map] at hv
        obtain ⟨t, ht, rfl⟩ := Option.map_eq_some_iff.1 hv
        obtain ⟨hi, rfl⟩ := List.getElem?_eq_some_iff.1 ht
        rw [Addr.add_lit, Nat.zero_add]; exact cell i hi
      · rw [List.getElem?_map] at hv
        obtain ⟨t, ht, rfl⟩ := Option.map_eq_some_iff.1 hv
        rw [List.getElem?_map, List.getElem?_map, ht, Option.map_some, Option.map_some, Option.some.injEq] at hl
        subst hl
        have hm := List.mem_of_getElem? ht
        obtain ⟨a, c', e, hB⟩ := (hR.txt t hm).bs (range_mem (hby t hm))
        rw [e]; exact hB.holds
    refine (Try.bytes_Join_many g 0 ts.length c _ _ (.slice sa sn sc) (Lib.bytesOf sep) w (by simp) h2 hP hcap hS.holds (by omega) ?_).mono ?_
    · rw [Lib.bytesOf_length, hS.len]
      have : sn * (ts.length - 1) ≤ 1048576 * 1048576 := Nat.mul_le_mul hsn (by omega)
      omega
    · rintro e w' ⟨v', rfl, hf, hb⟩
      obtain ⟨xs, hx, he⟩ := fresh_bts hf
      exact ⟨v', xs, rfl, hx, he, hb⟩
  · have e1 : ts.length = 1 := by omega
    obtain ⟨t, rfl⟩ : ∃ t, ts = [t] := List.length_eq_one_iff.1 e1
    have c0 : w.cell? ⟨g, 0, none⟩ = some t.1 := cell 0 (Nat.zero_lt_one)
    obtain ⟨a, c', e, hB⟩ := (hR.txt t (by simp)).bs (range_mem (hby t (by simp)))
    rw [e] at c0
    rw [show Lib.join (([t].map Prod.snd).map Lib.bytesOf) (Lib.bytesOf sep) = Lib.bytesOf t.2 from Lib.join_one _ _]
    rcases Nat.eq_zero_or_pos t.2.length with hz | hz
    · have hnil : t.2 = [] := List.eq_nil_of_length_eq_zero hz
      rw [hz] at c0
      refine (Try.bytes_Join_one_empty g 0 c a c' (.slice sa sn sc) w c0).mono ?_
      rintro e w' ⟨rfl, rfl⟩
      exact ⟨_, [], rfl, (BS.nilv _).bts, by rw [hnil], Below.refl _ _⟩
    · obtain ⟨b', off', rfl, _⟩ := hB.at_ hz
      have hh := hB.holds
      obtain ⟨p, cap, e9, _, hc⟩ := hh
      simp only [Value.slice.injEq] at e9
      obtain ⟨rfl, _, rfl⟩ := e9
      have hl9 : (Lib.bytesOf t.2).length = t.2.length := Lib.bytesOf_length _
      have hle : t.2.length ≤ 1048576 := by
        have : Lib.lens (([t].map Prod.snd).map Lib.bytesOf) = t.2.length := by simp [Lib.lens, hl9]
        omega
      refine (Try.bytes_Join_one g 0 c ⟨b', off', none⟩ c' (Lib.bytesOf t.2) (.slice sa sn sc) w (by rw [hl9]; exact c0) (hc _ rfl) (by omega) (by omega)).mono ?_
      rintro e w' ⟨v', rfl, hf, hb⟩
      obtain ⟨xs, hx, he⟩ := fresh_bts hf
      exact ⟨v', xs, rfl, hx, he, hb⟩
theorem bytesOf_append (a b : List Int) : Lib.bytesOf (a ++ b) = Lib.bytesOf a ++ Lib.bytesOf b := by simp [Lib.bytesOf]
theorem joinTail_cons (sep x : List UInt8) (r : List (List UInt8)) : Lib.joinTail sep (x :: r) = sep ++ Lib.join (x :: r) sep := by
  rw [Lib.join_cons]; simp [Lib.joinTail]
theorem cutL_cons (b : List Int) (e : Nat) (l : List Sp) : ∃ x r, cutL b e l = x :: r := by cases l <;> exact ⟨_, _, rfl⟩
/-- Spans replaced by a text: what stands between them, with the text. -/
theorem join_repl (b t : List Int) : ∀ (l : List Sp) (e : Nat), Lib.join ((cutL b e l).map Lib.bytesOf) (Lib.bytesOf t) = Lib.bytesOf (replL b (fun _ _ => t) e l)
  | [], e => Lib.join_one _ _
  | p :: r, e => by
    obtain ⟨x, q, hx⟩ := cutL_cons b p.2.toNat r
    have ih := join_repl b t r p.2.toNat
    rw [cutL, List.map_cons, Lib.join_cons]
    rw [hx] at ih ⊢
    rw [List.map_cons, joinTail_cons, ← List.map_cons, ih, replL, bytesOf_append, bytesOf_append, List.append_assoc]
/-- Spans replaced by themselves: the bytes. -/
theorem self_repl (b : List Int) : ∀ (l : List Sp) (e : Nat), apB b.length e l = true → replL b (fun x y => (b.drop x).take (y - x)) e l = b.drop e
  | [], e, _ => rfl
  | p :: r, e, h => by
    rw [apB, Bool.and_eq_true] at h
    obtain ⟨h1, h2⟩ := h
    have h3 := (ly_iff _ _ _).1 h1
    obtain ⟨x, y⟩ := p
    simp only at h2 h3
    obtain ⟨x, rfl⟩ : ∃ X : Nat, x = X := ⟨x.toNat, by omega⟩
    obtain ⟨y, rfl⟩ : ∃ Y : Nat, y = Y := ⟨y.toNat, by omega⟩
    rw [replL]
    simp only
    rw [show ((x : Int)).toNat = x from by omega, show ((y : Int)).toNat = y from by omega, self_repl b r y h2]
    have g : ∀ (p q : Nat), p ≤ q → (b.drop p).take (q - p) ++ b.drop q = b.drop p := fun p q h => by
      have := List.take_append_drop (q - p) (b.drop p)
      rw [List.drop_drop, show p + (q - p) = q from by omega] at this
      exact this
    rw [List.append_assoc, g x y (by omega), g e x (by omega)]
theorem lens_cut (b : List Int) : ∀ (l : List Sp) (e : Nat), apB b.length e l = true → e ≤ b.length → Lib.lens ((cutL b e l).map Lib.bytesOf) ≤ b.length - e
  | [], e, _, _ => by simp [cutL, Lib.lens, Lib.bytesOf]
  | p :: r, e, h, he => by
    rw [apB, Bool.and_eq_true] at h
    obtain ⟨h1, h2⟩ := h
    have h3 := (ly_iff _ _ _).1 h1
    obtain ⟨x, y⟩ := p
    simp only at h2 h3
    obtain ⟨x, rfl⟩ : ∃ X : Nat, x = X := ⟨x.toNat, by omega⟩
    obtain ⟨y, rfl⟩ : ∃ Y : Nat, y = Y := ⟨y.toNat, by omega⟩
    have ih := lens_cut b r y h2 (by omega)
    rw [cutL]
    simp only
    rw [show ((x : Int)).toNat = x from by omega, show ((y : Int)).toNat = y from by omega]
    have e2 : Lib.lens (((b.drop e).take (x - e) :: cutL b y r).map Lib.bytesOf) = ((b.drop e).take (x - e)).length + Lib.lens ((cutL b y r).map Lib.bytesOf) := by
      simp only [Lib.lens, List.map_cons, List.sum_cons, Lib.bytesOf_length]
    rw [e2, List.length_take]
    omega
end Go.Proofs.Ytfnndnlhdfjggaa.edt
