/- Texts that the proof leans on, one behind the other. -/
import Derived.Test.YtjbcapnpknbbaaaGreatCmpFrom
import Derived.Test.YtjbcapnpknbbaaaGreatBndCmpMem
import Derived.Deep.RegionHeld3
import Derived.Deep.RegionWith
import Derived.Deep.AppendLies

section
/- The document's builder in memory: here, full. -/
set_option linter.unusedVariables false
set_option linter.unusedSimpArgs false
namespace Go.Proofs.YtjbcapnpknbbaaaGreat.cmp
open Go.RowKit nod
open Go.Proofs.YtjbcapnpknbbaaaGreat.rng (R RV info_parts)

/-- What stands in the document's builder beside its code and marks. -/
structure Hd where
  gr : Int
  na : Option Addr
  nn : Nat
  nc : Nat
  o0 : Bool
  o1 : Bool
  o2 : Bool
  o3 : Int
abbrev hcells (h : Hd) (v : Value) (m : Int) : Array Value := #[v, .int .i64 h.gr, .int .i64 m, .slice h.na h.nn h.nc, .bool h.o0, .bool h.o1, .bool h.o2, .int .i64 h.o3]
/-- A slice of the call's own, a row of ranges, that is the set l. -/
def QO (w : World) (s : SV) (l : List R) : Prop := w.ownsRow 0 44 2 (sv s) l.length (rng.flat l)
theorem QO.on {w w' : World} {s : SV} {l : List R} (h : QO w s l) (hb : Below w.heap.size w w') : QO w' s l := rng.own_below' h hb
theorem qo_nil (w : World) : QO w (none, 0, 0) [] := World.ownsRow_nil _ _ _ _
theorem own_ne {w : World} {t t' : TypeId} {B B' n n' z z' : Nat} {v v' : Value} {xs xs' : List Value} (h : w.ownsRow B t z v n xs) (h' : w.ownsRow B' t' z' v' n' xs') (ht : t ≠ t') : v.ownBlock = none ∨ v.ownBlock ≠ v'.ownBlock := by
  rcases h.2 with ⟨rfl, _⟩ | ⟨g, cap, cur, rfl, _, hg, _⟩
  · exact .inl rfl
  · rcases h'.2 with ⟨rfl, _⟩ | ⟨g', cap', cur', rfl, _, hg', _⟩
    · exact .inr (fun e => by cases e)
    · refine .inr (fun e => ?_)
      obtain rfl : g = g' := by simpa [Value.ownBlock] using e
      rw [hg] at hg'; cases hg'; exact ht rfl
theorem own_bk {w : World} {t t' : TypeId} {B n z pb : Nat} {v : Value} {xs : List Value} {cs : Array Value} (h : w.ownsRow B t z v n xs) (b : Bk w pb cs t') (ht : t ≠ t') : v.ownBlock = none ∨ v.ownBlock ≠ some pb := by
  rcases h.2 with ⟨rfl, _⟩ | ⟨g, cap, cur, rfl, _, hg, _⟩
  · exact .inl rfl
  · refine .inr (fun e => ?_)
    obtain rfl : g = pb := by simpa [Value.ownBlock] using e
    unfold Bk at b
    rw [hg] at b; cases b; exact ht rfl
theorem grown_set (w : World) (pb i : Nat) (u : Value) : w.grownBy (w.setCell ⟨pb, i, none⟩ u) (some pb) :=
  ⟨rfl, rfl, rfl, by simp [World.setCell], fun k _ hk => Below.heap_setCell _ _ _ _ (fun e => hk (by rw [e]))⟩
theorem QO.set {w : World} {t' : TypeId} {pb : Nat} {s : SV} {l : List R} {cs : Array Value} (h : QO w s l) (b : Bk w pb cs t') (ht : 44 ≠ t') (i : Nat) (u : Value) : QO (w.setCell ⟨pb, i, none⟩ u) s l :=
  h.kept (grown_set w pb i u) (own_bk h b ht)
theorem QO.grown {w w' : World} {z n B : Nat} {s : SV} {l : List R} {v : Value} {xs : List Value} (h : QO w s l) (o : w.ownsRow B 66 z v n xs) (hg : w.grownBy w' v.ownBlock) : QO w' s l :=
  h.kept hg (own_ne h o (by decide))

/-- In block pb lies the document's builder with the code and marks a, in the making since w0: its row, if it lay there by then, in block G. -/
structure DS (w0 w : World) (pb : Nat) (G : Option Nat) (h : Hd) (a : Pc (List R)) : Prop where
  row : ∃ v p, Bk w pb (hcells h v a.2) 63 ∧ w.ownsRow 0 66 6 v p.length (flat6 p) ∧ RL (QO w) p a.1 ∧ ∀ x, v.ownBlock = some x → some x = G ∨ w0.heap.size ≤ x
  kq : Kq (fun x => x = pb ∨ some x = G) w0 w
  lt : pb < w0.heap.size
  ms : 0 ≤ a.2 ∧ a.2 ≤ a.1.length
theorem DS.again {w0 w : World} {pb : Nat} {G : Option Nat} {h : Hd} {a : Pc (List R)} (k : DS w0 w pb G h a) : ∃ G', DS w w pb G' h a ∧ (∀ x, G' = some x → some x = G ∨ w0.heap.size ≤ x) ∧ ∀ g cs t, Bk w g cs t → t ≠ 66 → some g ≠ G' := by
  obtain ⟨v, p, b, o, r, hx⟩ := k.row
  exact ⟨v.ownBlock, ⟨⟨v, p, b, o, r, fun x e => .inl e.symm⟩, Kq.refl _ _, b.lt, k.ms⟩, hx, fun g cs t hb ht e => (own_bk o hb (fun e => ht e.symm)).elim (fun e' => by rw [e'] at e; cases e) (fun e' => e' e.symm)⟩
theorem DS.bk {w0 w : World} {pb g : Nat} {G : Option Nat} {h : Hd} {a : Pc (List R)} {cs : Array Value} {t : TypeId} (k : DS w0 w pb G h a) (b : Bk w0 g cs t) (h1 : g ≠ pb) (h2 : some g ≠ G) : Bk w g cs t := Bk.kq b k.kq (fun e => e.elim h1 h2)
theorem DS.below {w0 w : World} {pb B : Nat} {G : Option Nat} {h : Hd} {a : Pc (List R)} (k : DS w0 w pb G h a) (hB : B ≤ w0.heap.size) (h1 : B ≤ pb) (h2 : ∀ x, G = some x → B ≤ x) : Below B w0 w := k.kq.below hB (fun x e => e.elim (fun e => e ▸ h1) (fun e => h2 x e.symm))
theorem DS.then {w0 w w' : World} {pb : Nat} {G G' : Option Nat} {h h' : Hd} {a c : Pc (List R)} (k : DS w0 w pb G h a) (hG : ∀ x, G' = some x → some x = G ∨ w0.heap.size ≤ x) (k' : DS w w' pb G' h' c) : DS w0 w' pb G h' c := by
  obtain ⟨v, p, b, o, r, hx⟩ := k'.row
  refine ⟨⟨v, p, b, o, r, fun x e => ?_⟩, k.kq.trans k'.kq (fun x hx e => ?_), k.lt, k'.ms⟩
  · rcases hx x e with e' | e'
    · exact hG x e'.symm
    · exact .inr (Nat.le_trans k.kq.size e')
  · rcases e with e | e
    · exact .inl e
    · rcases hG x e.symm with e' | e'
      · exact .inr e'
      · omega
theorem DS.on {w0 w w' : World} {pb : Nat} {G : Option Nat} {h : Hd} {a : Pc (List R)} (k : DS w0 w pb G h a) (hb : Below w.heap.size w w') : DS w0 w' pb G h a := by
  obtain ⟨v, p, b, ow, r, hx⟩ := k.row
  exact ⟨⟨v, p, b.on hb, rng.own_below' ow hb, r.imp fun s l q => q.on hb, hx⟩, k.kq.trans (Kq.of_below (S := fun _ => False) hb) (fun _ _ f => f.elim), k.lt, k.ms⟩
theorem DS.alloc {w0 w : World} {pb : Nat} {G : Option Nat} {h : Hd} {a : Pc (List R)} (k : DS w0 w pb G h a) (o : Obj) : DS w0 (w.alloc o) pb G h a := k.on ((Below.refl _ w).alloc (Nat.le_refl _) o)
theorem DS.drew {w0 w : World} {pb : Nat} {G : Option Nat} {h : Hd} {a : Pc (List R)} (k : DS w0 w pb G h a) : DS w0 w.drew pb G h a := k.on (Below.refl _ w).drew
/-- A store into a block of another type, made since. -/
theorem DS.apart {w0 w : World} {pb g : Nat} {G : Option Nat} {h : Hd} {a : Pc (List R)} {cs : Array Value} {t : TypeId} (k : DS w0 w pb G h a) (b : Bk w g cs t) (hg : w0.heap.size ≤ g) (h1 : t ≠ 66) (h2 : t ≠ 44) (i : Nat) (u : Value) : DS w0 (w.setCell ⟨g, i, none⟩ u) pb G h a := by
  obtain ⟨v, p, bk, ow, r, hx⟩ := k.row
  have hne : pb ≠ g := by have := k.lt; omega
  exact ⟨⟨v, p, bk.apart hne u, ow.kept (grown_set w g i u) (own_bk ow b (fun e => h1 e.symm)), r.imp fun s l q => q.set b (fun e => h2 e.symm) i u, hx⟩, k.kq.setCell (.inl hg) u, k.lt, k.ms⟩
/-- How many marks it has, turned. -/
theorem DS.marks {w0 w : World} {pb : Nat} {G : Option Nat} {h : Hd} {l : List (Is (List R))} {m : Int} (k : DS w0 w pb G h (l, m)) (x : Int) (hx : 0 ≤ x ∧ x ≤ l.length) : DS w0 (w.setCell ⟨pb, 2, none⟩ (.int .i64 x)) pb G h (l, x) := by
  obtain ⟨v, p, b, ow, r, hy⟩ := k.row
  exact ⟨⟨v, p, by have := b.set 2 (.int .i64 x); simpa using this, ow.kept (grown_set w pb 2 _) (own_bk ow b (by decide)), r.imp fun s l q => q.set b (by decide) 2 _, hy⟩, k.kq.setCell (.inr (.inl rfl)) _, k.lt, hx⟩
/-- The builder's row, as it lies. -/
theorem DS.slice {w0 w : World} {pb : Nat} {G : Option Nat} {h : Hd} {a : Pc (List R)} (k : DS w0 w pb G h a) : ∃ ao cap, Bk w pb (hcells h (.slice ao a.1.length cap) a.2) 63 ∧ a.1.length ≤ cap ∧ (ao = none → cap = 0) := by
  obtain ⟨v, p, b, ow, r, _⟩ := k.row
  obtain ⟨ao, cap, rfl, _, h1, h2, _⟩ := own_cr ow rfl
  exact ⟨ao, cap, by rw [← r.len]; exact b, by rw [← r.len]; exact h2, h1⟩
set_option maxRecDepth 10000 in
theorem here_d (pb : Nat) (a : Pc (List R)) (G : Option Nat) (h : Hd) (w0 w : World) (hp : DS w0 w pb G h a) :
    Calls Tryz.prog 87 #[.pointer (some ⟨pb, 0, none⟩)] w fun e w' => e = .returned (.int .i64 a.1.length) ∧ w' = w := by
  obtain ⟨ao, cap, bk, _, _⟩ := hp.slice
  generalize a.1.length = n at *
  have x0 := bk.cell 0 (u := .slice ao n cap) rfl
  clear hp bk
  go_enter Tryz.func87, Tryz.ntmps87
  go_wp2
  go_ret
  exact ⟨rfl, rfl⟩
set_option maxRecDepth 10000 in
theorem full_d (pb : Nat) (a : Pc (List R)) (G : Option Nat) (h : Hd) (w0 w : World) (hp : DS w0 w pb G h a) :
    Calls Tryz.prog 24 #[.pointer (some ⟨pb, 0, none⟩)] w fun e w' => e = .returned (.bool (decide (5000 < a.1.length))) ∧ w' = w := by
  obtain ⟨ao, cap, bk, _, _⟩ := hp.slice
  generalize a.1.length = n at *
  have x0 := bk.cell 0 (u := .slice ao n cap) rfl
  have hd : decide ((5000 : Int) < (n : Int)) = decide (5000 < n) := by rw [decide_eq_decide]; omega
  clear hp bk
  go_enter Tryz.func24, Tryz.ntmps24
  go_wp2
  go_ret
  exact ⟨by first | rfl | rw [← hd] | (rw [← hd]; simp), rfl⟩
end Go.Proofs.YtjbcapnpknbbaaaGreat.cmp
end

section
/- The document's builder: put, split. -/
set_option linter.unusedVariables false
set_option linter.unusedSimpArgs false
namespace Go.Proofs.YtjbcapnpknbbaaaGreat.cmp
open Go.RowKit nod
open Go.Proofs.YtjbcapnpknbbaaaGreat.rng (R RV info_parts)

theorem ret_nat {a b : Int} (h : a = b) : Ending.returned (.int .i64 a) = .returned (.int .i64 b) := by rw [h]
set_option maxRecDepth 100000 in
set_option maxHeartbeats 4000000 in
theorem put_any_d (pb : Nat) (a : Pc (List R)) (G : Option Nat) (h : Hd) (o x y mn mx : Int) (sa : Option Addr) (sl sc : Nat) (l : List R) (w : World) (hp : DS w w pb G h a) (hq : QO w (sa, sl, sc) l) (hb : a.1.length ≤ 100000) :
    Calls Tryz.prog 22 #[.pointer (some ⟨pb, 0, none⟩), .agg #[.int .i64 o, .int .i64 x, .int .i64 y, .int .i64 mn, .int .i64 mx, .slice sa sl sc]] w fun e w' => e = .returned (.int .i64 a.1.length) ∧ DS w w' pb G h (putP a [⟨o, x, y, mn, mx, l⟩]) := by
  obtain ⟨i0, hi, hz0, hz1, hz2⟩ := info_parts infoInst
  have hpb := hp.lt
  have HP1 := hp.alloc (.cells #[.int .i64 o, .int .i64 x, .int .i64 y, .int .i64 mn, .int .i64 mx, .slice sa sl sc] 66)
  have B1 : Below w.heap.size w (w.alloc (.cells #[.int .i64 o, .int .i64 x, .int .i64 y, .int .i64 mn, .int .i64 mx, .slice sa sl sc] 66)) := (Below.refl _ w).alloc (Nat.le_refl _) _
  have HQ1 := hq.on B1
  have hz : (w.alloc (.cells #[.int .i64 o, .int .i64 x, .int .i64 y, .int .i64 mn, .int .i64 mx, .slice sa sl sc] 66)).heap.size = w.heap.size + 1 := by simp
  have BX : Bk (w.alloc (.cells #[.int .i64 o, .int .i64 x, .int .i64 y, .int .i64 mn, .int .i64 mx, .slice sa sl sc] 66)) w.heap.size #[.int .i64 o, .int .i64 x, .int .i64 y, .int .i64 mn, .int .i64 mx, .slice sa sl sc] 66 := Bk.new w _ _
  obtain ⟨w1, hw1⟩ : ∃ w1, w.alloc (.cells #[.int .i64 o, .int .i64 x, .int .i64 y, .int .i64 mn, .int .i64 mx, .slice sa sl sc] 66) = w1 := ⟨_, rfl⟩
  rw [hw1] at HP1 HQ1 BX hz B1
  obtain ⟨ak, am⟩ := a
  simp only at hb
  obtain ⟨n, hn⟩ : ∃ n, ak.length = n := ⟨_, rfl⟩
  have HNL : Hid (ak.length = n) := hn
  simp only
  rw [hn] at hb ⊢
  obtain ⟨v, p, bk, hown, hr, hx⟩ := HP1.row
  have hpl : p.length = n := by rw [hr.len, hn]
  rw [hpl] at hown
  have hvx : v.ownBlock ≠ some w.heap.size := fun e => by
    obtain ⟨v', p', bk', hown', _, _⟩ := hp.row
    have hv : v' = v := by
      have e1 := (bk'.on B1).cell 0 (u := v') rfl
      have e2 := bk.cell 0 (u := v) rfl
      rw [e1] at e2; cases e2; rfl
    subst hv
    have := (hown'.lt _ e).2
    omega
  have hpw : w.heap.size ≠ pb := by omega
  have H63 : Hid (n + 1 ≤ maxLen) := by unfold Hid maxLen; omega
  have HBY : Hid ((n + 1) * 64 ≤ 140737488355328) := by unfold Hid; omega
  have HF : Hid (∀ (v' : Value) (w' : World), w'.ownsRow 0 66 6 v' (n + 1) (flat6 p ++ flat6 [⟨o, x, y, mn, mx, (sa, sl, sc)⟩]) → ((w1.alloc (.cells #[.int .i64 o, .int .i64 x, .int .i64 y, .int .i64 mn, .int .i64 mx, .slice sa sl sc] 66)).drew).grownBy w' v.ownBlock → (v'.ownBlock = v.ownBlock ∨ v'.ownBlock = some ((w1.alloc (.cells #[.int .i64 o, .int .i64 x, .int .i64 y, .int .i64 mn, .int .i64 mx, .slice sa sl sc] 66)).drew).heap.size) →
      Hid (Hid (DS w (w'.setCell ⟨pb, 0, none⟩ v') pb G h (putP (ak, am) [⟨o, x, y, mn, mx, l⟩])) ∧ (w'.setCell ⟨pb, 0, none⟩ v').cell? ⟨pb, 0, none⟩ = some v' ∧ (w'.setCell ⟨pb, 0, none⟩ v').cell? ⟨w.heap.size, 0, none⟩ = some (.int .i64 o) ∧ (w'.setCell ⟨pb, 0, none⟩ v').cell? ⟨w.heap.size, 1, none⟩ = some (.int .i64 x) ∧ (w'.setCell ⟨pb, 0, none⟩ v').cell? ⟨w.heap.size, 2, none⟩ = some (.int .i64 y) ∧ (w'.setCell ⟨pb, 0, none⟩ v').cell? ⟨w.heap.size, 3, none⟩ = some (.int .i64 mn) ∧ (w'.setCell ⟨pb, 0, none⟩ v').cell? ⟨w.heap.size, 4, none⟩ = some (.int .i64 mx) ∧ (w'.setCell ⟨pb, 0, none⟩ v').cell? ⟨w.heap.size, 5, none⟩ = some (.slice sa sl sc)) ∧ w'.cell? ⟨pb, 0, none⟩ = some v ∧ w'.frozen? ⟨pb, 0, none⟩ = false ∧ w'.cell? ⟨w.heap.size, 0, none⟩ = some (.int .i64 o) ∧ w'.cell? ⟨w.heap.size, 1, none⟩ = some (.int .i64 x) ∧ w'.cell? ⟨w.heap.size, 2, none⟩ = some (.int .i64 y) ∧ w'.cell? ⟨w.heap.size, 3, none⟩ = some (.int .i64 mn) ∧ w'.cell? ⟨w.heap.size, 4, none⟩ = some (.int .i64 mx) ∧ w'.cell? ⟨w.heap.size, 5, none⟩ = some (.slice sa sl sc)) := fun v' w' ho hg hat => by
    have B4 : Below w1.heap.size w1 ((w1.alloc (.cells #[.int .i64 o, .int .i64 x, .int .i64 y, .int .i64 mn, .int .i64 mx, .slice sa sl sc] 66)).drew) := ((Below.refl _ w1).alloc (Nat.le_refl _) _).drew
    have bk4 := bk.on B4
    have own4 := rng.own_below' hown B4
    have bk5 : Bk w' pb (hcells h v am) 63 := (hg.block pb bk4.lt (fun e => (own_bk own4 bk4 (by decide)).elim (fun e' => by rw [e'] at e; cases e) (fun e' => e' e.symm))).trans bk4
    have bx5 : Bk w' w.heap.size #[.int .i64 o, .int .i64 x, .int .i64 y, .int .i64 mn, .int .i64 mx, .slice sa sl sc] 66 := (hg.block _ (BX.on B4).lt (fun e => hvx e.symm)).trans (BX.on B4)
    have bx6 : Bk (w'.setCell ⟨pb, 0, none⟩ v') w.heap.size #[.int .i64 o, .int .i64 x, .int .i64 y, .int .i64 mn, .int .i64 mx, .slice sa sl sc] 66 := bx5.apart hpw v'
    have bk6 : Bk (w'.setCell ⟨pb, 0, none⟩ v') pb (hcells h v' am) 63 := by have := bk5.set 0 v'; simpa using this
    have hq5 : QO w' (sa, sl, sc) l := (HQ1.on B4).grown own4 hg
    have hr5 : RL (QO w') (p ++ [⟨o, x, y, mn, mx, (sa, sl, sc)⟩]) (ak ++ [⟨o, x, y, mn, mx, l⟩]) := (hr.imp fun s l q => (q.on B4).grown own4 hg).append (.cons ⟨rfl, rfl, rfl, rfl, rfl, hq5⟩ .nil)
    refine ⟨⟨⟨⟨v', p ++ [⟨o, x, y, mn, mx, (sa, sl, sc)⟩], bk6, ?_, hr5.imp fun s l q => q.set bk5 (by decide) 0 v', fun z e => ?_⟩, ?_, hpb, ?_⟩, bk6.cell 0 rfl, bx6.cell 0 rfl, bx6.cell 1 rfl, bx6.cell 2 rfl, bx6.cell 3 rfl, bx6.cell 4 rfl, bx6.cell 5 rfl⟩, bk5.cell 0 rfl, bk5.frozen 0, bx5.cell 0 rfl, bx5.cell 1 rfl, bx5.cell 2 rfl, bx5.cell 3 rfl, bx5.cell 4 rfl, bx5.cell 5 rfl⟩
    · have hl2 : (p ++ [(⟨o, x, y, mn, mx, (sa, sl, sc)⟩ : Is SV)]).length = n + 1 := by simp [hpl]
      rw [hl2, flat6_append]
      exact ho.kept (grown_set w' pb 0 v') (own_bk ho bk5 (by decide))
    · rcases hat with hat | hat
      · rw [hat] at e; exact (hx z e)
      · rw [hat] at e; cases e; exact .inr (by have := B4.size; simp; omega)
    · refine ((HP1.kq.trans (Kq.of_below (S := fun _ => False) B4) (fun _ _ f => f.elim)).grown hg (fun z e hz' => ?_)).setCell (.inr (.inl rfl)) v'
      rcases hx z e with e' | e'
      · exact .inr e'
      · omega
    · have := HP1.ms
      simp only [putP, List.length_append, List.length_singleton] at *
      omega
  have HO4 : Hid (((w1.alloc (.cells #[.int .i64 o, .int .i64 x, .int .i64 y, .int .i64 mn, .int .i64 mx, .slice sa sl sc] 66)).drew).ownsRow 0 66 6 v n (flat6 p)) := rng.own_below' hown (((Below.refl _ w1).alloc (Nat.le_refl _) _).drew)
  have HN4 : Hid (∀ (j : Nat) u, (flat6 [(⟨o, x, y, mn, mx, (sa, sl, sc)⟩ : Is SV)])[j]? = some u → ((w1.alloc (.cells #[.int .i64 o, .int .i64 x, .int .i64 y, .int .i64 mn, .int .i64 mx, .slice sa sl sc] 66)).drew).cell? ((⟨w1.heap.size, 0, none⟩ : Addr).add j) = some u) := fun j u hj => by
    have b4 : Bk ((w1.alloc (.cells #[.int .i64 o, .int .i64 x, .int .i64 y, .int .i64 mn, .int .i64 mx, .slice sa sl sc] 66)).drew) w1.heap.size #[.int .i64 o, .int .i64 x, .int .i64 y, .int .i64 mn, .int .i64 mx, .slice sa sl sc] 66 := (Bk.new w1 _ _).on ((Below.refl _ _).drew)
    rw [Addr.add_lit]
    have := b4.cell j (u := u) (by simpa [flat6, cells6, sv] using hj)
    simpa using this
  have HB4 : Hid (Bk ((w1.alloc (.cells #[.int .i64 o, .int .i64 x, .int .i64 y, .int .i64 mn, .int .i64 mx, .slice sa sl sc] 66)).drew) w.heap.size #[.int .i64 o, .int .i64 x, .int .i64 y, .int .i64 mn, .int .i64 mx, .slice sa sl sc] 66) := BX.on (((Below.refl _ w1).alloc (Nat.le_refl _) _).drew)
  have HP4 : Hid (Bk ((w1.alloc (.cells #[.int .i64 o, .int .i64 x, .int .i64 y, .int .i64 mn, .int .i64 mx, .slice sa sl sc] 66)).drew) pb (hcells h v am) 63) := bk.on (((Below.refl _ w1).alloc (Nat.le_refl _) _).drew)
  have l0 := BX.cell 0 (u := .int .i64 o) rfl
  have l1 := BX.cell 1 (u := .int .i64 x) rfl
  have l2 := BX.cell 2 (u := .int .i64 y) rfl
  have l3 := BX.cell 3 (u := .int .i64 mn) rfl
  have l4 := BX.cell 4 (u := .int .i64 mx) rfl
  have l5 := BX.cell 5 (u := .slice sa sl sc) rfl
  have x0 := bk.cell 0 (u := v) rfl
  have HW1 : Hid (w.alloc (.cells #[.int .i64 o, .int .i64 x, .int .i64 y, .int .i64 mn, .int .i64 mx, .slice sa sl sc] 66) = w1) := hw1
  clear hr hown hx hvx bk BX HP1 HQ1 hpl hw1
  go_enter Tryz.func22, Tryz.ntmps22
  go_upto_region 1 with fail
  rw [HW1.out]
  refine wp_region_noPanic ?_
  refine wp_region_held_drew (S := fun w' => w'.cell? ⟨w.heap.size, 0, none⟩ = some (.int .i64 o) ∧ w'.cell? ⟨w.heap.size, 1, none⟩ = some (.int .i64 x) ∧ w'.cell? ⟨w.heap.size, 2, none⟩ = some (.int .i64 y) ∧ w'.cell? ⟨w.heap.size, 3, none⟩ = some (.int .i64 mn) ∧ w'.cell? ⟨w.heap.size, 4, none⟩ = some (.int .i64 mx) ∧ w'.cell? ⟨w.heap.size, 5, none⟩ = some (.slice sa sl sc)) (by kernel_rfl) ?_ (fun hHeld => ?_)
  · exact ⟨l0, l1, l2, l3, l4, l5⟩
  refine wpAnyH_take (i := 0) (v := ?_) rfl (by kernel_rfl) (by kernel_rfl) (by kernel_rfl) (fun _ _ _ h => h) (Or.inl ⟨by rfl, ?_⟩) (by assumption) ?_
  rotate_left
  · (intro w' hSw; (try dsimp only at hSw); go_simp; try with_reducible rfl)
  try simp only [Act.put, List.setIfInBounds_toArray, List.set_cons_zero, List.set_cons_succ, List.getElem_toArray, List.getElem_cons_zero, List.getElem_cons_succ]
  refine wpAnyH_take (i := 1) (v := ?_) rfl (by kernel_rfl) (by kernel_rfl) (by kernel_rfl) (fun _ _ _ h => h) (Or.inl ⟨by rfl, ?_⟩) (by assumption) ?_
  rotate_left
  · (intro w' hSw; (try dsimp only at hSw); go_simp; try with_reducible rfl)
  try simp only [Act.put, List.setIfInBounds_toArray, List.set_cons_zero, List.set_cons_succ, List.getElem_toArray, List.getElem_cons_zero, List.getElem_cons_succ]
  refine wpAnyH_take (i := 2) (v := ?_) rfl (by kernel_rfl) (by kernel_rfl) (by kernel_rfl) (fun _ _ _ h => h) (Or.inl ⟨by rfl, ?_⟩) (by assumption) ?_
  rotate_left
  · (intro w' hSw; (try dsimp only at hSw); go_simp; try with_reducible rfl)
  try simp only [Act.put, List.setIfInBounds_toArray, List.set_cons_zero, List.set_cons_succ, List.getElem_toArray, List.getElem_cons_zero, List.getElem_cons_succ]
  refine wpAnyH_take (i := 3) (v := ?_) rfl (by kernel_rfl) (by kernel_rfl) (by kernel_rfl) (fun _ _ _ h => h) (Or.inl ⟨by rfl, ?_⟩) (by assumption) ?_
  rotate_left
  · (intro w' hSw; (try dsimp only at hSw); go_simp; try with_reducible rfl)
  try simp only [Act.put, List.setIfInBounds_toArray, List.set_cons_zero, List.set_cons_succ, List.getElem_toArray, List.getElem_cons_zero, List.getElem_cons_succ]
  refine wpAnyH_take (i := 4) (v := ?_) rfl (by kernel_rfl) (by kernel_rfl) (by kernel_rfl) (fun _ _ _ h => h) (Or.inl ⟨by rfl, ?_⟩) (by assumption) ?_
  rotate_left
  · (intro w' hSw; (try dsimp only at hSw); go_simp; try with_reducible rfl)
  try simp only [Act.put, List.setIfInBounds_toArray, List.set_cons_zero, List.set_cons_succ, List.getElem_toArray, List.getElem_cons_zero, List.getElem_cons_succ]
  refine wpAnyH_take (i := 6) (v := ?_) rfl (by kernel_rfl) (by kernel_rfl) (by kernel_rfl) (fun _ _ _ h => h) (Or.inl ⟨by rfl, ?_⟩) (by assumption) ?_
  rotate_left
  · (intro w' hSw; (try dsimp only at hSw); go_simp; try with_reducible rfl)
  try simp only [Act.put, List.setIfInBounds_toArray, List.set_cons_zero, List.set_cons_succ, List.getElem_toArray, List.getElem_cons_zero, List.getElem_cons_succ]
  refine wpAnyH_ready (rs := [5, 7]) (by kernel_rfl) (by simp) ?_
  refine AllReadyH.cons rfl (fun K hK => ?_) (AllReadyH.cons rfl (fun K hK => ?_) AllReadyH.nil)
  · go_simp
    refine hK.out _ _ ?_ (fun hHeld => ?_)
    · exact ⟨l0, l1, l2, l3, l4, l5⟩
    clear hK K
    try simp only [Act.put, List.setIfInBounds_toArray, List.set_cons_zero, List.set_cons_succ, List.getElem_toArray, List.getElem_cons_zero, List.getElem_cons_succ]
    refine wpAnyH_ready (rs := [7]) (by kernel_rfl) (by simp) ?_
    refine AllReadyH.cons rfl (fun K hK => ?_) AllReadyH.nil
    go_simp
    refine hK.out _ _ ?_ (fun hHeld => ?_)
    · exact ⟨HB4.out.cell 0 rfl, HB4.out.cell 1 rfl, HB4.out.cell 2 rfl, HB4.out.cell 3 rfl, HB4.out.cell 4 rfl, HB4.out.cell 5 rfl⟩
    clear hK K
    try simp only [Act.put, List.setIfInBounds_toArray, List.set_cons_zero, List.set_cons_succ, List.getElem_toArray, List.getElem_cons_zero, List.getElem_cons_succ]
    refine wpAnyH_ready (rs := [8]) (by kernel_rfl) (by simp) ?_
    refine AllReadyH.cons rfl (fun K hK => ?_) AllReadyH.nil
    refine step_append_lies _ rfl _ _ 31 rfl 0 66 i0 (.agg #[.int .i64 0, .int .i64 0, .int .i64 0, .int .i64 0, .int .i64 0, .slice none 0 0]) 6 64 Tryz.underlying31 hi hz0 hz1 hz2 rfl (by decide) v n (flat6 p) (by simp [Act.eval, Act.put]) HO4.out ⟨w1.heap.size, 0, none⟩ 1 1 (flat6 [⟨o, x, y, mn, mx, (sa, sl, sc)⟩]) (by simp [Act.eval, Act.put]) rfl HN4.out (flat6_one _) (by decide) H63.out HBY.out (Nat.zero_le _) _ rfl ?_
    intro g c w5 hown5 hgrow5 hat5 hlt5
    obtain ⟨HF5, b0, z0, y5, y6, y7, y8, y9, y10⟩ := HF.out (.slice (some ⟨g, 0, none⟩) (n + 1) c) w5 hown5 hgrow5 (hat5.elim (fun e => .inl e.symm) (fun e => .inr (by rw [e]; rfl)))
    clear hown5 hgrow5 hat5
    refine hK.out _ _ ?_ (fun hHeld => ?_)
    · exact ⟨y5, y6, y7, y8, y9, y10⟩
    clear hK K
    try simp only [Act.put, List.setIfInBounds_toArray, List.set_cons_zero, List.set_cons_succ, List.getElem_toArray, List.getElem_cons_zero, List.getElem_cons_succ]
    refine wpAnyH_take (i := 9) (v := ?_) rfl (by kernel_rfl) (by kernel_rfl) (by kernel_rfl) (fun _ _ _ h => h) (Or.inl ⟨by rfl, ?_⟩) (by assumption) ?_
    rotate_left
    · (intro w' hSw; (try dsimp only at hSw); go_simp; try with_reducible rfl)
    try simp only [Act.put, List.setIfInBounds_toArray, List.set_cons_zero, List.set_cons_succ, List.getElem_toArray, List.getElem_cons_zero, List.getElem_cons_succ]
    refine wpAnyH_take (i := 10) (v := ?_) rfl (by kernel_rfl) (by kernel_rfl) (by kernel_rfl) (fun _ _ _ h => h) (Or.inl ⟨by rfl, ?_⟩) (by assumption) ?_
    rotate_left
    · (intro w' hSw; (try dsimp only at hSw); go_simp; try with_reducible rfl)
    try simp only [Act.put, List.setIfInBounds_toArray, List.set_cons_zero, List.set_cons_succ, List.getElem_toArray, List.getElem_cons_zero, List.getElem_cons_succ]
    refine wpAnyH_take (i := 11) (v := ?_) rfl (by kernel_rfl) (by kernel_rfl) (by kernel_rfl) (fun _ _ _ h => h) (Or.inl ⟨by rfl, ?_⟩) (by assumption) ?_
    rotate_left
    · (intro w' hSw; (try dsimp only at hSw); go_simp; try with_reducible rfl)
    try simp only [Act.put, List.setIfInBounds_toArray, List.set_cons_zero, List.set_cons_succ, List.getElem_toArray, List.getElem_cons_zero, List.getElem_cons_succ]
    refine wpAnyH_ready (rs := [12]) (by kernel_rfl) (by simp) ?_
    refine AllReadyH.cons rfl (fun K hK => ?_) AllReadyH.nil
    go_simp
    obtain ⟨HF6, e0, e5, e6, e7, e8, e9, e10⟩ := HF5.out
    refine hK.out _ _ ?_ (fun hHeld => ?_)
    · exact ⟨e5, e6, e7, e8, e9, e10⟩
    clear hK K
    try simp only [Act.put, List.setIfInBounds_toArray, List.set_cons_zero, List.set_cons_succ, List.getElem_toArray, List.getElem_cons_zero, List.getElem_cons_succ]
    refine wpAnyH_done (by kernel_rfl) ?_ _
    refine NoPanic.normal ?_
    clear y5 y6 y7 y8 y9 y10 e5 e6 e7 e8 e9 e10 b0 z0 hHeld
    go_wp2
    go_ret
    exact ⟨ret_nat (by omega), HF6.out⟩
  · go_simp
    refine hK.out _ _ ?_ (fun hHeld => ?_)
    · exact ⟨HB4.out.cell 0 rfl, HB4.out.cell 1 rfl, HB4.out.cell 2 rfl, HB4.out.cell 3 rfl, HB4.out.cell 4 rfl, HB4.out.cell 5 rfl⟩
    clear hK K
    try simp only [Act.put, List.setIfInBounds_toArray, List.set_cons_zero, List.set_cons_succ, List.getElem_toArray, List.getElem_cons_zero, List.getElem_cons_succ]
    have x4 := HP4.out.cell 0 (u := v) rfl
    refine wpAnyH_ready (rs := [5]) (by kernel_rfl) (by simp) ?_
    refine AllReadyH.cons rfl (fun K hK => ?_) AllReadyH.nil
    go_simp
    refine hK.out _ _ ?_ (fun hHeld => ?_)
    · exact ⟨HB4.out.cell 0 rfl, HB4.out.cell 1 rfl, HB4.out.cell 2 rfl, HB4.out.cell 3 rfl, HB4.out.cell 4 rfl, HB4.out.cell 5 rfl⟩
    clear hK K
    try simp only [Act.put, List.setIfInBounds_toArray, List.set_cons_zero, List.set_cons_succ, List.getElem_toArray, List.getElem_cons_zero, List.getElem_cons_succ]
    refine wpAnyH_ready (rs := [8]) (by kernel_rfl) (by simp) ?_
    refine AllReadyH.cons rfl (fun K hK => ?_) AllReadyH.nil
    refine step_append_lies _ rfl _ _ 31 rfl 0 66 i0 (.agg #[.int .i64 0, .int .i64 0, .int .i64 0, .int .i64 0, .int .i64 0, .slice none 0 0]) 6 64 Tryz.underlying31 hi hz0 hz1 hz2 rfl (by decide) v n (flat6 p) (by simp [Act.eval, Act.put]) HO4.out ⟨w1.heap.size, 0, none⟩ 1 1 (flat6 [⟨o, x, y, mn, mx, (sa, sl, sc)⟩]) (by simp [Act.eval, Act.put]) rfl HN4.out (flat6_one _) (by decide) H63.out HBY.out (Nat.zero_le _) _ rfl ?_
    intro g c w5 hown5 hgrow5 hat5 hlt5
    obtain ⟨HF5, b0, z0, y5, y6, y7, y8, y9, y10⟩ := HF.out (.slice (some ⟨g, 0, none⟩) (n + 1) c) w5 hown5 hgrow5 (hat5.elim (fun e => .inl e.symm) (fun e => .inr (by rw [e]; rfl)))
    clear hown5 hgrow5 hat5
    refine hK.out _ _ ?_ (fun hHeld => ?_)
    · exact ⟨y5, y6, y7, y8, y9, y10⟩
    clear hK K
    try simp only [Act.put, List.setIfInBounds_toArray, List.set_cons_zero, List.set_cons_succ, List.getElem_toArray, List.getElem_cons_zero, List.getElem_cons_succ]
    refine wpAnyH_take (i := 9) (v := ?_) rfl (by kernel_rfl) (by kernel_rfl) (by kernel_rfl) (fun _ _ _ h => h) (Or.inl ⟨by rfl, ?_⟩) (by assumption) ?_
    rotate_left
    · (intro w' hSw; (try dsimp only at hSw); go_simp; try with_reducible rfl)
    try simp only [Act.put, List.setIfInBounds_toArray, List.set_cons_zero, List.set_cons_succ, List.getElem_toArray, List.getElem_cons_zero, List.getElem_cons_succ]
    refine wpAnyH_take (i := 10) (v := ?_) rfl (by kernel_rfl) (by kernel_rfl) (by kernel_rfl) (fun _ _ _ h => h) (Or.inl ⟨by rfl, ?_⟩) (by assumption) ?_
    rotate_left
    · (intro w' hSw; (try dsimp only at hSw); go_simp; try with_reducible rfl)
    try simp only [Act.put, List.setIfInBounds_toArray, List.set_cons_zero, List.set_cons_succ, List.getElem_toArray, List.getElem_cons_zero, List.getElem_cons_succ]
    refine wpAnyH_take (i := 11) (v := ?_) rfl (by kernel_rfl) (by kernel_rfl) (by kernel_rfl) (fun _ _ _ h => h) (Or.inl ⟨by rfl, ?_⟩) (by assumption) ?_
    rotate_left
    · (intro w' hSw; (try dsimp only at hSw); go_simp; try with_reducible rfl)
    try simp only [Act.put, List.setIfInBounds_toArray, List.set_cons_zero, List.set_cons_succ, List.getElem_toArray, List.getElem_cons_zero, List.getElem_cons_succ]
    refine wpAnyH_ready (rs := [12]) (by kernel_rfl) (by simp) ?_
    refine AllReadyH.cons rfl (fun K hK => ?_) AllReadyH.nil
    go_simp
    obtain ⟨HF6, e0, e5, e6, e7, e8, e9, e10⟩ := HF5.out
    refine hK.out _ _ ?_ (fun hHeld => ?_)
    · exact ⟨e5, e6, e7, e8, e9, e10⟩
    clear hK K
    try simp only [Act.put, List.setIfInBounds_toArray, List.set_cons_zero, List.set_cons_succ, List.getElem_toArray, List.getElem_cons_zero, List.getElem_cons_succ]
    refine wpAnyH_done (by kernel_rfl) ?_ _
    refine NoPanic.normal ?_
    clear y5 y6 y7 y8 y9 y10 e5 e6 e7 e8 e9 e10 b0 z0 hHeld
    go_wp2
    go_ret
    exact ⟨ret_nat (by omega), HF6.out⟩
theorem put_d {w0 w : World} {pb : Nat} {a : Pc (List R)} {G : Option Nat} {h : Hd} (hp : DS w0 w pb G h a) (o x y mn mx : Int) (sa : Option Addr) (sl sc : Nat) (l : List R) (hq : QO w (sa, sl, sc) l) (hb : a.1.length ≤ 100000) :
    Calls Tryz.prog 22 #[.pointer (some ⟨pb, 0, none⟩), .agg #[.int .i64 o, .int .i64 x, .int .i64 y, .int .i64 mn, .int .i64 mx, .slice sa sl sc]] w fun e w' => e = .returned (.int .i64 a.1.length) ∧ DS w0 w' pb G h (putP a [⟨o, x, y, mn, mx, l⟩]) := by
  obtain ⟨G', h1, h2, _⟩ := hp.again
  exact (put_any_d pb a G' h o x y mn mx sa sl sc l w h1 hq hb).mono fun e w' ⟨he, k⟩ => ⟨he, hp.then h2 k⟩
set_option maxRecDepth 10000 in
theorem split_d {w0 w : World} {pb : Nat} {a : Pc (List R)} {G : Option Nat} {h : Hd} (hp : DS w0 w pb G h a) (hb : a.1.length ≤ 100000) :
    Calls Tryz.prog 86 #[.pointer (some ⟨pb, 0, none⟩)] w fun e w' => e = .returned (.int .i64 a.1.length) ∧ DS w0 w' pb G h (putP a [ins [] 2 ((a.1.length : Int) + 1) 0]) := by
  have CH := here_d pb a G h w0 w hp
  have CP := put_d hp 2 ((a.1.length : Int) + 1) 0 0 0 none 0 0 [] (qo_nil w) hb
  have HC : Hid (∀ e w', e = Ending.returned (.int .i64 a.1.length) ∧ DS w0 w' pb G h (putP a [⟨2, (a.1.length : Int) + 1, 0, 0, 0, []⟩]) → e = .returned (.int .i64 a.1.length) ∧ DS w0 w' pb G h (putP a [ins [] 2 ((a.1.length : Int) + 1) 0])) := fun e w' k => k
  generalize putP a [⟨2, (a.1.length : Int) + 1, 0, 0, 0, []⟩] = a1 at *
  generalize putP a [ins [] 2 ((a.1.length : Int) + 1) 0] = a2 at *
  generalize a.1.length = n at *
  clear hp
  go_enter Tryz.func86, Tryz.ntmps86
  go_wp2_with (first
    | (go_at_call 87; refine CH.mono ?_; clear CH; rintro e w2 ⟨rfl, rfl⟩)
    | (go_at_call 22; refine CP.mono ?_; clear CP; intro e w3 hk; obtain ⟨rfl, HK⟩ := HC.out _ _ hk; have HD : Hid (DS w0 w3 pb G h a2) := HK; clear hk HK HC))
  go_ret
  exact ⟨rfl, HD.out⟩
end Go.Proofs.YtjbcapnpknbbaaaGreat.cmp
end

section
/- The document's builder: an instruction's X or Y turned; close. -/
set_option linter.unusedVariables false
set_option linter.unusedSimpArgs false
namespace Go.Proofs.YtjbcapnpknbbaaaGreat.cmp
open Go.RowKit nod
open Go.Proofs.YtjbcapnpknbbaaaGreat.rng (R RV info_parts)

theorem wrap_near {x : Int} (h1 : -9223372036854775808 ≤ x) (h2 : x ≤ 9223372036854775807) : IntKind.i64.wrap x = x := by
  rw [IntKind.wrap_i64]; omega
theorem RL.get {α β : Type} {Q : α → β → Prop} {l r} (h : RL Q l r) : ∀ (k : Nat) j, r[k]? = some j → ∃ i, l[k]? = some i ∧ RI Q i j := by
  induction h with
  | nil => intro k j hk; simp at hk
  | cons a _ ih =>
    intro k j hk
    cases k with
    | zero => simp at hk; subst hk; exact ⟨_, rfl, a⟩
    | succ k => exact ih k j (by simpa using hk)
theorem RL.put {α β : Type} {Q : α → β → Prop} {l r} (h : RL Q l r) (k : Nat) {i j} (hij : RI Q i j) : RL Q (l.set k i) (r.set k j) := by
  induction h generalizing k with
  | nil => exact .nil
  | cons a h ih =>
    cases k with
    | zero => exact .cons hij h
    | succ k => exact .cons a (ih k)
theorem flat6_put : ∀ (l : List (Is SV)) (k : Nat) (i i' : Is SV) (j : Nat) (u : Value), l[k]? = some i → j < 6 → (cells6 i).set j u = cells6 i' → (flat6 l).set (k * 6 + j) u = flat6 (l.set k i')
  | [], k, i, i', j, u, h, _, _ => by simp at h
  | x :: l, 0, i, i', j, u, h, hj, hu => by
    simp at h; subst h
    rw [flat6_cons, Nat.zero_mul, Nat.zero_add, List.set_append_left _ _ (by simpa [cells6] using hj), hu]; rfl
  | x :: l, k + 1, i, i', j, u, h, hj, hu => by
    have := flat6_put l k i i' j u (by simpa using h) hj hu
    rw [flat6_cons, List.set_append_right _ _ (by simp [cells6]; omega)]
    rw [show (k + 1) * 6 + j - (cells6 x).length = k * 6 + j by simp [cells6]; omega, this]; rfl
/-- The builder's row, and what a store into one of its instructions makes of it. -/
theorem DS.elem {w0 w : World} {pb : Nat} {G : Option Nat} {h : Hd} {a : Pc (List R)} (k : DS w0 w pb G h a) (s : Nat) (i : Is (List R)) (hi : a.1[s]? = some i) :
    ∃ g cap, Bk w pb (hcells h (.slice (some ⟨g, 0, none⟩) a.1.length cap) a.2) 63 ∧ a.1.length ≤ cap ∧ g ≠ pb ∧
      w.cell? ⟨g, s * 6 + 1, none⟩ = some (.int .i64 i.x) ∧ w.cell? ⟨g, s * 6 + 2, none⟩ = some (.int .i64 i.y) ∧ (∀ j, w.frozen? ⟨g, j, none⟩ = false) ∧
      (∀ x, DS w0 (w.setCell ⟨g, s * 6 + 1, none⟩ (.int .i64 x)) pb G h (a.1.set s ⟨i.op, x, i.y, i.mn, i.mx, i.set⟩, a.2)) ∧
      (∀ y, DS w0 (w.setCell ⟨g, s * 6 + 2, none⟩ (.int .i64 y)) pb G h (a.1.set s ⟨i.op, i.x, y, i.mn, i.mx, i.set⟩, a.2)) := by
  obtain ⟨v, p, b, ow, r, hx⟩ := k.row
  obtain ⟨j, hj, hij⟩ := r.get s i hi
  have hsp : s < p.length := (List.getElem?_eq_some_iff.1 hj).1
  have ow0 := ow
  rcases ow.2 with ⟨_, h0⟩ | ⟨g, cap, cur, rfl, _, hg, hcap, _⟩
  · omega
  have hgp : g ≠ pb := row_ne ow b (by decide) rfl
  have hgx : some g = G ∨ w0.heap.size ≤ g := hx g rfl
  refine ⟨g, cap, by rw [← r.len]; exact b, by rw [← r.len]; exact hcap, hgp, ?_, ?_, fun j => ow.frozenAt j, fun x => ?_, fun y => ?_⟩
  · have := ow.cellAt (s * 6 + 1) (by omega)
    rw [flat6_get p s j 1 _ hj rfl] at this
    rw [this, hij.x]
  · have := ow.cellAt (s * 6 + 2) (by omega)
    rw [flat6_get p s j 2 _ hj rfl] at this
    rw [this, hij.y]
  · obtain ⟨st, gr⟩ := ow.stored (s * 6 + 1) (.int .i64 x)
    rw [flat6_put p s j ⟨j.op, x, j.y, j.mn, j.mx, j.set⟩ 1 _ hj (by decide) rfl] at st
    have hne : pb ≠ g := fun e => hgp e.symm
    refine ⟨⟨_, p.set s ⟨j.op, x, j.y, j.mn, j.mx, j.set⟩, b.apart hne _, by rw [List.length_set]; exact st, (r.imp fun s' l q => q.grown ow0 gr).put s ⟨hij.op, rfl, hij.y, hij.mn, hij.mx, hij.set.grown ow0 gr⟩, hx⟩, k.kq.setCell (by rcases hgx with e | e; exact .inr (.inr e); exact .inl e) _, k.lt, by rw [List.length_set]; exact k.ms⟩
  · obtain ⟨st, gr⟩ := ow.stored (s * 6 + 2) (.int .i64 y)
    rw [flat6_put p s j ⟨j.op, j.x, y, j.mn, j.mx, j.set⟩ 2 _ hj (by decide) rfl] at st
    have hne : pb ≠ g := fun e => hgp e.symm
    refine ⟨⟨_, p.set s ⟨j.op, j.x, y, j.mn, j.mx, j.set⟩, b.apart hne _, by rw [List.length_set]; exact st, (r.imp fun s' l q => q.grown ow0 gr).put s ⟨hij.op, hij.x, rfl, hij.mn, hij.mx, hij.set.grown ow0 gr⟩, hx⟩, k.kq.setCell (by rcases hgx with e | e; exact .inr (.inr e); exact .inl e) _, k.lt, by rw [List.length_set]; exact k.ms⟩
set_option maxRecDepth 10000 in
set_option maxHeartbeats 2000000 in
/-- A split is told its other way. -/
theorem close_d {w0 w : World} {pb : Nat} {a : Pc (List R)} {G : Option Nat} {h : Hd} (hp : DS w0 w pb G h a) (s : Nat) (out : Int) (lazy : Bool) (i : Is (List R)) (hi : a.1[s]? = some i) (hb : a.1.length ≤ 100000) :
    Calls Tryz.prog 88 #[.pointer (some ⟨pb, 0, none⟩), .int .i64 s, .int .i64 out, .bool lazy] w fun e w' => e = .returned (.tuple #[]) ∧ DS w0 w' pb G h (a.1.set s (if lazy then ⟨i.op, out, (s : Int) + 1, i.mn, i.mx, i.set⟩ else ⟨i.op, i.x, out, i.mn, i.mx, i.set⟩), a.2) := by
  obtain ⟨g, cap, bk, hcap, hgp, cx, cy, hfr, hX, hY⟩ := hp.elem s i hi
  have hs : s < a.1.length := (List.getElem?_eq_some_iff.1 hi).1
  have D1 := hY out
  have hi1 : (a.1.set s (⟨i.op, i.x, out, i.mn, i.mx, i.set⟩ : Is (List R)))[s]? = some ⟨i.op, i.x, out, i.mn, i.mx, i.set⟩ := by rw [List.getElem?_set_self hs]
  obtain ⟨g2, cap2, bk2, hcap2, hgp2, cx2, cy2, hfr2, hX2, hY2⟩ := D1.elem s _ hi1
  have hpb : pb ≠ g := fun e => hgp e.symm
  have bk1 := bk.apart (i := s * 6 + 2) hpb (.int .i64 out)
  obtain ⟨rfl, rfl⟩ : g2 = g ∧ cap2 = cap := by
    have e1 := bk1.cell 0 (u := .slice (some ⟨g, 0, none⟩) a.1.length cap) rfl
    have e2 := bk2.cell 0 (u := .slice (some ⟨g2, 0, none⟩) (a.1.set s (⟨i.op, i.x, out, i.mn, i.mx, i.set⟩ : Is (List R))).length cap2) rfl
    rw [e1] at e2
    simp only [List.length_set, Option.some.injEq, Value.slice.injEq, Addr.mk.injEq, and_true, true_and] at e2
    exact ⟨e2.1.symm, e2.2.symm⟩
  have D2 := hX2 out
  simp only [List.set_set] at D2 hi1
  have hs2 : s < (a.1.set s (⟨i.op, out, out, i.mn, i.mx, i.set⟩ : Is (List R))).length := by rw [List.length_set]; exact hs
  obtain ⟨g3, cap3, bk3, hcap3, hgp3, cx3, cy3, hfr3, hX3, hY3⟩ := D2.elem s ⟨i.op, out, out, i.mn, i.mx, i.set⟩ (by rw [List.getElem?_set_self hs])
  have bk12 := bk1.apart (i := s * 6 + 1) hpb (.int .i64 out)
  obtain ⟨rfl, rfl⟩ : g3 = g2 ∧ cap3 = cap2 := by
    have e1 := bk12.cell 0 (u := .slice (some ⟨g2, 0, none⟩) a.1.length cap2) rfl
    have e2 := bk3.cell 0 (u := .slice (some ⟨g3, 0, none⟩) (a.1.set s (⟨i.op, out, out, i.mn, i.mx, i.set⟩ : Is (List R))).length cap3) rfl
    rw [e1] at e2
    simp only [List.length_set, Option.some.injEq, Value.slice.injEq, Addr.mk.injEq, and_true, true_and] at e2
    exact ⟨e2.1.symm, e2.2.symm⟩
  have D3 := hY3 ((s : Int) + 1)
  simp only [List.set_set] at D3
  have HD1 : Hid (DS w0 (w.setCell ⟨g3, s * 6 + 2, none⟩ (.int .i64 out)) pb G h (a.1.set s ⟨i.op, i.x, out, i.mn, i.mx, i.set⟩, a.2)) := D1
  have HD3 : Hid (DS w0 (((w.setCell ⟨g3, s * 6 + 2, none⟩ (.int .i64 out)).setCell ⟨g3, s * 6 + 1, none⟩ (.int .i64 out)).setCell ⟨g3, s * 6 + 2, none⟩ (.int .i64 ((s : Int) + 1))) pb G h (a.1.set s ⟨i.op, out, (s : Int) + 1, i.mn, i.mx, i.set⟩, a.2)) := D3
  have f2 := hfr (s * 6 + 2)
  have z1 := hfr2 (s * 6 + 1)
  have z2 := hfr3 (s * 6 + 2)
  have x0 := bk.cell 0 (u := .slice (some ⟨g3, 0, none⟩) a.1.length cap3) rfl
  have x1 := bk1.cell 0 (u := .slice (some ⟨g3, 0, none⟩) a.1.length cap3) rfl
  have x2 := bk12.cell 0 (u := .slice (some ⟨g3, 0, none⟩) a.1.length cap3) rfl
  clear hp bk bk1 bk2 bk3 bk12 D1 D2 D3 hX hX3 hY2 hY hY3 hX2 hfr hfr2 hfr3 hi hi1 hs2 cx cx3 cy2 hcap2 hcap3
  generalize a.1.length = n at *
  have hs9 : (s : Int) < n := by omega
  cases lazy with
  | false =>
    simp only [Bool.false_eq_true, if_false]
    generalize ((a.1.set s ⟨i.op, i.x, out, i.mn, i.mx, i.set⟩, a.2) : Pc (List R)) = A1 at *
    clear HD3 z1 z2 x1 x2 cx2 cy3
    go_enter Tryz.func88, Tryz.ntmps88
    go_wp2
    go_end0
    exact ⟨rfl, HD1.out⟩
  | true =>
    simp only [if_true]
    generalize ((a.1.set s ⟨i.op, out, (s : Int) + 1, i.mn, i.mx, i.set⟩, a.2) : Pc (List R)) = A3 at *
    clear HD1
    go_enter Tryz.func88, Tryz.ntmps88
    go_wp2
    go_region_held3 (fun w' => w'.cell? ⟨pb, 0, none⟩ = some (.slice (some ⟨g3, 0, none⟩) n cap3)) (go_keep) (fail)
    go_wp2
    go_end0
    exact ⟨rfl, by have e : IntKind.i64.wrap ((s : Int) + 1) = (s : Int) + 1 := wrap_near (by omega) (by omega)
                   rw [e]; exact HD3.out.drew⟩
end Go.Proofs.YtjbcapnpknbbaaaGreat.cmp
end
