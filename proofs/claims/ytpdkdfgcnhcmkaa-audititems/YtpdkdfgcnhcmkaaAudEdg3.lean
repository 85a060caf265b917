/- The document's edge and Edges; AuditEdges walked. -/
import Derived.Test.YtpdkdfgcnhcmkaaAudEdg2
set_option linter.unusedVariables false
set_option linter.unusedSimpArgs false
namespace Go.Proofs.Ytpdkdfgcnhcmkaa.aud
open Go.RowKit
open Go.Proofs.Ytpdkdfgcnhcmkaa.edt
open Go.Proofs.Ytpdkdfgcnhcmkaa.utf (items IsB)

abbrev ItemsAt (w : World) (B : Nat) (v : Value) (L : List Im) : Prop := w.ownsRow B 32 3 v L.length (utf.flat L)
theorem redge_any (v : Value) (B : Nat) (L : List Im) (n : Nat) (p : Int) (w : World) (hO : ItemsAt w B v L) (hL : L.length ≤ 1048576) :
    Calls Try.prog 20 #[v, .int .i64 n, .int .i64 p] w fun e w' => e = .returned (.bool (egB L n p)) ∧ Below w.heap.size w w' := by
  obtain ⟨ai, ci, rfl⟩ := own_slice hO
  have HO : Hid (ItemsAt w B (.slice ai L.length ci) L) := hO
  clear hO
  by_cases hp : p = n
  · subst hp
    have e1 : egB L n n = true := by simp [egB]
    rw [e1]
    go_enter Try.func20, Try.ntmps20
    go_wp2
    go_ret
    exact ⟨rfl, Below.refl _ _⟩
  · have e1 : egB L n p = L.any (fun x => decide ((x.2.1 : Int) = p)) := by simp [egB, hp]
    rw [e1]
    clear e1
    have hpb : (p == (n : Int)) = false := by simpa using hp
    obtain ⟨N, hN⟩ : ∃ N, L.length = N := ⟨_, rfl⟩
    have HN : Hid (L.length = N) := hN
    rw [hN] at hL ⊢
    unfold ItemsAt at HO
    rw [hN] at HO
    clear hN
    go_enter Try.func20, Try.ntmps20
    go_wp2
    go_loopw [14] (fun i wr => ∃ k : Nat, k ≤ N ∧ i = .int .i64 k ∧ Hid (Below w.heap.size w wr) ∧ Hid ((L.drop k).any (fun x => decide ((x.2.1 : Int) = p)) = L.any (fun x => decide ((x.2.1 : Int) = p)))) (fun i _ => N - (intOf i).toNat)
    case atStart => exact ⟨0, Nat.zero_le _, rfl, Below.refl _ _, rfl⟩
    case round =>
      obtain ⟨k, hk, rfl, BK, HK⟩ := hrel
      by_cases hlt : k < N
      · obtain ⟨e0, e1, e2⟩ := flat_get L k (by rw [HN.out]; exact hlt)
        have HK2 : Hid ((decide (((L.getD k (0, 0, 0)).2.1 : Int) = p) || (L.drop (k + 1)).any (fun x => decide ((x.2.1 : Int) = p))) = L.any (fun x => decide ((x.2.1 : Int) = p))) := by
          have := HK.out
          rw [drop_cons L k (0, 0, 0) (by rw [HN.out]; exact hlt), List.any_cons] at this
          exact this
        obtain ⟨gi, hai⟩ : ∃ gi, ai = some ⟨gi, 0, none⟩ := by
          rcases HO.out.2 with ⟨h, h0⟩ | ⟨g, c, cur, h, _⟩
          · omega
          · cases h; exact ⟨g, rfl⟩
        subst hai
        have OK := own_below HO.out BK.out
        generalize L.getD k (0, 0, 0) = x at *
        obtain ⟨x0, x1, x2⟩ := x
        simp only at e0 e1 e2
        have c0 : wr.cell? ⟨gi, k * 3, none⟩ = some (.int .i64 x0) := (OK.cellAt _ (by omega)).trans e0
        have c1 : wr.cell? ⟨gi, k * 3 + 1, none⟩ = some (.int .i64 x1) := (OK.cellAt _ (by omega)).trans e1
        have c2 : wr.cell? ⟨gi, k * 3 + 2, none⟩ = some (.int .i64 x2) := (OK.cellAt _ (by omega)).trans e2
        have BA : Hid (∀ o, Below w.heap.size w (wr.alloc o)) := fun o => BK.out.alloc BK.out.size o
        clear OK e0 e1 e2 BK HK
        by_cases hx : (x1 : Int) = p
        · have e9 : Hid (L.any (fun x => decide ((x.2.1 : Int) = p)) = true) := by have h1 := HK2.out; simp only [hx, decide_true, Bool.true_or] at h1; exact h1.symm
          subst hx
          go_wp2
          go_ret
          exact ⟨ret_bool e9.out.symm, BA.out _⟩
        · have HK3 : Hid ((L.drop (k + 1)).any (fun x => decide ((x.2.1 : Int) = p)) = L.any (fun x => decide ((x.2.1 : Int) = p))) := by have h1 := HK2.out; simp only [hx, decide_false, Bool.false_or] at h1; exact h1
          have hxb : ((x1 : Int) == p) = false := by simpa using hx
          go_wp2
          go_roundw
          case rel => exact ⟨k + 1, by omega, by go_num, BA.out _, HK3⟩
          case measure => simp [intOf]; omega
      · obtain rfl : k = N := by omega
        have e9 : Hid (L.any (fun x => decide ((x.2.1 : Int) = p)) = false) := by
          show _ = _
          rw [← HK.out, List.drop_eq_nil_of_le (by rw [HN.out]; exact Nat.le_refl _)]; rfl
        go_wp2
        go_ret
        exact ⟨ret_bool e9.out.symm, BK.out⟩
end Go.Proofs.Ytpdkdfgcnhcmkaa.aud
