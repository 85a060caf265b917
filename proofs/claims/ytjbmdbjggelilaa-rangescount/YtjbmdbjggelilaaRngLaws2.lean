/- The walks of RangesBoth, RangesNot, RangesHold, RangesAlgebra and RangesCount. -/
import Derived.Test.YtjbmdbjggelilaaRngLaws
set_option linter.unusedVariables false
set_option linter.unusedSimpArgs false
namespace Go.Proofs.Ytjbmdbjggelilaa.rng
open Go.RowKit

theorem bl (c f g : Bool) (h : c = true → f = g) (hc : c = true) : f = g := h hc


set_option maxHeartbeats 4000000 in
theorem law_both (va : Value) (la : List R) (vb : Value) (lb : List R) (w : World) (ha : Arg w va la) (hb : Arg w vb lb) :
    Calls Try.prog 4 #[va, vb] w fun e w' => e = .returned (.bool true) ∧ Below w.heap.size w w' := by
  have Ca := fun W (h : Arg W va la) => short_s va la W h
  have Ha : Hid (Arg w va la) := ha
  have Na := take40 la
  have HN_a : Hid ((la.take 40).length ≤ 1000000) := Na
  clear ha Na
  have Cb := fun W (h : Arg W vb lb) => short_s vb lb W h
  have Hb : Hid (Arg w vb lb) := hb
  have Nb := take40 lb
  have HN_b : Hid ((lb.take 40).length ≤ 1000000) := Nb
  clear hb Nb
  go_enter Try.func4, Try.ntmps4
  go_wp2_with fail
  refine (Ca _ Ha.out).mono ?_
  rintro e wz ⟨vaa, rfl, hsa, hz⟩
  subst hz
  have Sa : Hid (Sl _ vaa (la.take 40)) := hsa
  clear hsa Ca
  go_wp2_with fail
  refine (Cb _ Hb.out).mono ?_
  rintro e wz ⟨vab, rfl, hsb, hz⟩
  subst hz
  have Sb : Hid (Sl _ vab (lb.take 40)) := hsb
  clear hsb Cb
  obtain ⟨a, ea⟩ : ∃ x, la.take 40 = x := ⟨_, rfl⟩
  rw [ea] at Sa HN_a
  clear ea Ha
  obtain ⟨b, eb⟩ : ∃ x, lb.take 40 = x := ⟨_, rfl⟩
  rw [eb] at Sb HN_b
  clear eb Hb
  have hb := Below.refl (World.heap ‹World›).size ‹World›
  go_wp2_with fail
  refine (clone_s vaa a _ Sa.out HN_a.out).mono ?_
  rintro e w1 ⟨vxa, rfl, sx, d⟩
  replace Sa : Hid (Sl w1 vaa a) := Sa.out.below d
  replace Sb : Hid (Sl w1 vab b) := Sb.out.below d
  replace hb := hb.trans (d.mono hb.size)
  have Xa : Hid (Sl w1 vxa a) := sx
  clear sx d
  go_wp2_with fail
  refine (clone_s vab b _ Sb.out HN_b.out).mono ?_
  rintro e w2 ⟨vxb, rfl, sx, d⟩
  replace Sa : Hid (Sl w2 vaa a) := Sa.out.below d
  replace Sb : Hid (Sl w2 vab b) := Sb.out.below d
  replace Xa : Hid (Sl w2 vxa a) := Xa.out.below d
  replace hb := hb.trans (d.mono hb.size)
  have Xb : Hid (Sl w2 vxb b) := sx
  clear sx d
  go_wp2_with fail
  refine (union_s vxa vxb a b _ Xa.out Xb.out HN_a.out HN_b.out).mono ?_
  rintro e w3 ⟨vp0, p0, rfl, sp0, i_p0, d⟩
  replace Sa : Hid (Sl w3 vaa a) := Sa.out.below d
  replace Sb : Hid (Sl w3 vab b) := Sb.out.below d
  replace Xa : Hid (Sl w3 vxa a) := Xa.out.below d
  replace Xb : Hid (Sl w3 vxb b) := Xb.out.below d
  replace hb := hb.trans (d.mono hb.size)
  have Sp0 : Hid (Sl w3 vp0 p0) := sp0
  have HN_p0 : Hid (p0.length ≤ 1000000) := by unfold Hid; have := can_len i_p0.1; omega
  have Ip0 := i_p0
  clear sp0 i_p0 d
  have Jp0 : Hid (IsSet p0 _) := Ip0
  clear Ip0
  go_wp2_with fail
  refine (runion_s vaa vab a b _ Sa.out Sb.out HN_a.out HN_b.out).mono ?_
  rintro e w4 ⟨vq0, q0, rfl, sq0, i_q0, d⟩
  replace Sa : Hid (Sl w4 vaa a) := Sa.out.below d
  replace Sb : Hid (Sl w4 vab b) := Sb.out.below d
  replace Xa : Hid (Sl w4 vxa a) := Xa.out.below d
  replace Xb : Hid (Sl w4 vxb b) := Xb.out.below d
  replace Sp0 : Hid (Sl w4 vp0 p0) := Sp0.out.below d
  replace hb := hb.trans (d.mono hb.size)
  have Sq0 : Hid (Sl w4 vq0 q0) := sq0
  have HN_q0 : Hid (q0.length ≤ 1000000) := by unfold Hid; have := can_len i_q0.1; omega
  have Iq0 := i_q0
  clear sq0 i_q0 d
  have Jq0 : Hid (IsSet q0 _) := Iq0
  clear Iq0
  go_wp2_with fail
  refine (equal_s vp0 vq0 p0 q0 _ Sp0.out Sq0.out HN_p0.out (Jp0.out.eq Jq0.out (fun _ _ => rfl))).mono ?_
  rintro e w5 ⟨rfl, d⟩
  replace Sa : Hid (Sl w5 vaa a) := Sa.out.below d
  replace Sb : Hid (Sl w5 vab b) := Sb.out.below d
  replace Xa : Hid (Sl w5 vxa a) := Xa.out.below d
  replace Xb : Hid (Sl w5 vxb b) := Xb.out.below d
  replace Sp0 : Hid (Sl w5 vp0 p0) := Sp0.out.below d
  replace Sq0 : Hid (Sl w5 vq0 q0) := Sq0.out.below d
  replace hb := hb.trans (d.mono hb.size)
  clear d
  clear Sp0 Sq0 Jp0 Jq0 HN_p0 HN_q0
  go_wp2_with fail
  refine (meet_s vxa vxb a b _ Xa.out Xb.out HN_a.out HN_b.out).mono ?_
  rintro e w6 ⟨vp1, p1, rfl, sp1, i_p1, d⟩
  replace Sa : Hid (Sl w6 vaa a) := Sa.out.below d
  replace Sb : Hid (Sl w6 vab b) := Sb.out.below d
  replace Xa : Hid (Sl w6 vxa a) := Xa.out.below d
  replace Xb : Hid (Sl w6 vxb b) := Xb.out.below d
  replace hb := hb.trans (d.mono hb.size)
  have Sp1 : Hid (Sl w6 vp1 p1) := sp1
  have HN_p1 : Hid (p1.length ≤ 1000000) := by unfold Hid; have := can_len i_p1.1; omega
  have Ip1 := i_p1
  clear sp1 i_p1 d
  have Jp1 : Hid (IsSet p1 _) := Ip1
  clear Ip1
  go_wp2_with fail
  refine (rmeet_s vaa vab a b _ Sa.out Sb.out HN_a.out HN_b.out).mono ?_
  rintro e w7 ⟨vq1, q1, rfl, sq1, i_q1, d⟩
  replace Sa : Hid (Sl w7 vaa a) := Sa.out.below d
  replace Sb : Hid (Sl w7 vab b) := Sb.out.below d
  replace Xa : Hid (Sl w7 vxa a) := Xa.out.below d
  replace Xb : Hid (Sl w7 vxb b) := Xb.out.below d
  replace Sp1 : Hid (Sl w7 vp1 p1) := Sp1.out.below d
  replace hb := hb.trans (d.mono hb.size)
  have Sq1 : Hid (Sl w7 vq1 q1) := sq1
  have HN_q1 : Hid (q1.length ≤ 1000000) := by unfold Hid; have := can_len i_q1.1; omega
  have Iq1 := i_q1
  clear sq1 i_q1 d
  have Jq1 : Hid (IsSet q1 _) := Iq1
  clear Iq1
  go_wp2_with fail
  refine (equal_s vp1 vq1 p1 q1 _ Sp1.out Sq1.out HN_p1.out (Jp1.out.eq Jq1.out (fun _ _ => rfl))).mono ?_
  rintro e w8 ⟨rfl, d⟩
  replace Sa : Hid (Sl w8 vaa a) := Sa.out.below d
  replace Sb : Hid (Sl w8 vab b) := Sb.out.below d
  replace Xa : Hid (Sl w8 vxa a) := Xa.out.below d
  replace Xb : Hid (Sl w8 vxb b) := Xb.out.below d
  replace Sp1 : Hid (Sl w8 vp1 p1) := Sp1.out.below d
  replace Sq1 : Hid (Sl w8 vq1 q1) := Sq1.out.below d
  replace hb := hb.trans (d.mono hb.size)
  clear d
  clear Sp1 Sq1 Jp1 Jq1 HN_p1 HN_q1
  go_wp2_with fail
  refine (minus_s vxa vxb a b _ Xa.out Xb.out HN_a.out HN_b.out).mono ?_
  rintro e w9 ⟨vp2, p2, rfl, sp2, i_p2, d⟩
  replace Sa : Hid (Sl w9 vaa a) := Sa.out.below d
  replace Sb : Hid (Sl w9 vab b) := Sb.out.below d
  replace Xa : Hid (Sl w9 vxa a) := Xa.out.below d
  replace Xb : Hid (Sl w9 vxb b) := Xb.out.below d
  replace hb := hb.trans (d.mono hb.size)
  have Sp2 : Hid (Sl w9 vp2 p2) := sp2
  have HN_p2 : Hid (p2.length ≤ 1000000) := by unfold Hid; have := can_len i_p2.1; omega
  have Ip2 := i_p2
  clear sp2 i_p2 d
  have Jp2 : Hid (IsSet p2 _) := Ip2
  clear Ip2
  go_wp2_with fail
  refine (rminus_s vaa vab a b _ Sa.out Sb.out HN_a.out HN_b.out).mono ?_
  rintro e w10 ⟨vq2, q2, rfl, sq2, i_q2, d⟩
  replace Sa : Hid (Sl w10 vaa a) := Sa.out.below d
  replace Sb : Hid (Sl w10 vab b) := Sb.out.below d
  replace Xa : Hid (Sl w10 vxa a) := Xa.out.below d
  replace Xb : Hid (Sl w10 vxb b) := Xb.out.below d
  replace Sp2 : Hid (Sl w10 vp2 p2) := Sp2.out.below d
  replace hb := hb.trans (d.mono hb.size)
  have Sq2 : Hid (Sl w10 vq2 q2) := sq2
  have HN_q2 : Hid (q2.length ≤ 1000000) := by unfold Hid; have := can_len i_q2.1; omega
  have Iq2 := i_q2
  clear sq2 i_q2 d
  have Jq2 : Hid (IsSet q2 _) := Iq2
  clear Iq2
  go_wp2_with fail
  refine (equal_s vp2 vq2 p2 q2 _ Sp2.out Sq2.out HN_p2.out (Jp2.out.eq Jq2.out (fun _ _ => rfl))).mono ?_
  rintro e w11 ⟨rfl, d⟩
  replace Sa : Hid (Sl w11 vaa a) := Sa.out.below d
  replace Sb : Hid (Sl w11 vab b) := Sb.out.below d
  replace Xa : Hid (Sl w11 vxa a) := Xa.out.below d
  replace Xb : Hid (Sl w11 vxb b) := Xb.out.below d
  replace Sp2 : Hid (Sl w11 vp2 p2) := Sp2.out.below d
  replace Sq2 : Hid (Sl w11 vq2 q2) := Sq2.out.below d
  replace hb := hb.trans (d.mono hb.size)
  clear d
  clear Sp2 Sq2 Jp2 Jq2 HN_p2 HN_q2
  go_wp2_with fail
  refine (xor_s vxa vxb a b _ Xa.out Xb.out HN_a.out HN_b.out).mono ?_
  rintro e w12 ⟨vp3, p3, rfl, sp3, i_p3, d⟩
  replace Sa : Hid (Sl w12 vaa a) := Sa.out.below d
  replace Sb : Hid (Sl w12 vab b) := Sb.out.below d
  replace Xa : Hid (Sl w12 vxa a) := Xa.out.below d
  replace Xb : Hid (Sl w12 vxb b) := Xb.out.below d
  replace hb := hb.trans (d.mono hb.size)
  have Sp3 : Hid (Sl w12 vp3 p3) := sp3
  have HN_p3 : Hid (p3.length ≤ 1000000) := by unfold Hid; have := can_len i_p3.1; omega
  have Ip3 := i_p3
  clear sp3 i_p3 d
  have Jp3 : Hid (IsSet p3 _) := Ip3
  clear Ip3
  go_wp2_with fail
  refine (rxor_s vaa vab a b _ Sa.out Sb.out HN_a.out HN_b.out).mono ?_
  rintro e w13 ⟨vq3, q3, rfl, sq3, i_q3, d⟩
  replace Sa : Hid (Sl w13 vaa a) := Sa.out.below d
  replace Sb : Hid (Sl w13 vab b) := Sb.out.below d
  replace Xa : Hid (Sl w13 vxa a) := Xa.out.below d
  replace Xb : Hid (Sl w13 vxb b) := Xb.out.below d
  replace Sp3 : Hid (Sl w13 vp3 p3) := Sp3.out.below d
  replace hb := hb.trans (d.mono hb.size)
  have Sq3 : Hid (Sl w13 vq3 q3) := sq3
  have HN_q3 : Hid (q3.length ≤ 1000000) := by unfold Hid; have := can_len i_q3.1; omega
  have Iq3 := i_q3
  clear sq3 i_q3 d
  have Jq3 : Hid (IsSet q3 _) := Iq3
  clear Iq3
  go_wp2_with fail
  refine (equal_s vp3 vq3 p3 q3 _ Sp3.out Sq3.out HN_p3.out (Jp3.out.eq Jq3.out (fun _ _ => rfl))).mono ?_
  rintro e w14 ⟨rfl, d⟩
  replace Sa : Hid (Sl w14 vaa a) := Sa.out.below d
  replace Sb : Hid (Sl w14 vab b) := Sb.out.below d
  replace Xa : Hid (Sl w14 vxa a) := Xa.out.below d
  replace Xb : Hid (Sl w14 vxb b) := Xb.out.below d
  replace Sp3 : Hid (Sl w14 vp3 p3) := Sp3.out.below d
  replace Sq3 : Hid (Sl w14 vq3 q3) := Sq3.out.below d
  replace hb := hb.trans (d.mono hb.size)
  clear d
  clear Sp3 Sq3 Jp3 Jq3 HN_p3 HN_q3
  go_wp2_with fail
  refine (equal_s vxa vaa a a _ Xa.out Sa.out HN_a.out (rfl)).mono ?_
  rintro e w15 ⟨rfl, d⟩
  replace Sa : Hid (Sl w15 vaa a) := Sa.out.below d
  replace Sb : Hid (Sl w15 vab b) := Sb.out.below d
  replace Xa : Hid (Sl w15 vxa a) := Xa.out.below d
  replace Xb : Hid (Sl w15 vxb b) := Xb.out.below d
  replace hb := hb.trans (d.mono hb.size)
  clear d
  go_wp2_with fail
  refine (equal_s vxb vab b b _ Xb.out Sb.out HN_b.out (rfl)).mono ?_
  rintro e w16 ⟨rfl, d⟩
  replace Sa : Hid (Sl w16 vaa a) := Sa.out.below d
  replace Sb : Hid (Sl w16 vab b) := Sb.out.below d
  replace Xa : Hid (Sl w16 vxa a) := Xa.out.below d
  replace Xb : Hid (Sl w16 vxb b) := Xb.out.below d
  replace hb := hb.trans (d.mono hb.size)
  clear d
  go_wp2_with fail
  refine (awake_any _).mono ?_
  rintro e wl ⟨rfl, d⟩
  go_wp2
  go_ret
  exact ⟨rfl, hb.trans (d.mono hb.size)⟩

set_option maxHeartbeats 4000000 in
theorem law_not (va : Value) (la : List R) (w : World) (ha : Arg w va la) :
    Calls Try.prog 5 #[va] w fun e w' => e = .returned (.bool true) ∧ Below w.heap.size w w' := by
  have Ca := fun W (h : Arg W va la) => short_s va la W h
  have Ha : Hid (Arg w va la) := ha
  have Na := take40 la
  have HN_a : Hid ((la.take 40).length ≤ 1000000) := Na
  clear ha Na
  go_enter Try.func5, Try.ntmps5
  go_wp2_with fail
  refine (Ca _ Ha.out).mono ?_
  rintro e wz ⟨vaa, rfl, hsa, hz⟩
  subst hz
  have Sa : Hid (Sl _ vaa (la.take 40)) := hsa
  clear hsa Ca
  obtain ⟨a, ea⟩ : ∃ x, la.take 40 = x := ⟨_, rfl⟩
  rw [ea] at Sa HN_a
  clear ea Ha
  have hb := Below.refl (World.heap ‹World›).size ‹World›
  go_wp2_with fail
  refine (not_s vaa a _ Sa.out HN_a.out).mono ?_
  rintro e w1 ⟨vn, n, rfl, sn, i_n, d⟩
  replace Sa : Hid (Sl w1 vaa a) := Sa.out.below d
  replace hb := hb.trans (d.mono hb.size)
  have Sn : Hid (Sl w1 vn n) := sn
  have HN_n : Hid (n.length ≤ 1000000) := by unfold Hid; have := can_len i_n.1; omega
  have In := i_n
  clear sn i_n d
  have Jn : Hid (IsSet n _) := In
  clear In
  go_wp2_with fail
  refine (rnot_s vaa a _ Sa.out HN_a.out).mono ?_
  rintro e w2 ⟨vq, q, rfl, sq, i_q, d⟩
  replace Sa : Hid (Sl w2 vaa a) := Sa.out.below d
  replace Sn : Hid (Sl w2 vn n) := Sn.out.below d
  replace hb := hb.trans (d.mono hb.size)
  have Sq : Hid (Sl w2 vq q) := sq
  have HN_q : Hid (q.length ≤ 1000000) := by unfold Hid; have := can_len i_q.1; omega
  have Iq := i_q
  clear sq i_q d
  have Jq : Hid (IsSet q _) := Iq
  clear Iq
  go_wp2_with fail
  refine (equal_s vn vq n q _ Sn.out Sq.out HN_n.out (Jn.out.eq Jq.out (fun _ _ => rfl))).mono ?_
  rintro e w3 ⟨rfl, d⟩
  replace Sa : Hid (Sl w3 vaa a) := Sa.out.below d
  replace Sn : Hid (Sl w3 vn n) := Sn.out.below d
  replace Sq : Hid (Sl w3 vq q) := Sq.out.below d
  replace hb := hb.trans (d.mono hb.size)
  clear d
  go_wp2_with fail
  refine (not_s vn n _ Sn.out HN_n.out).mono ?_
  rintro e w4 ⟨vt, t, rfl, st, i_t, d⟩
  replace Sa : Hid (Sl w4 vaa a) := Sa.out.below d
  replace Sn : Hid (Sl w4 vn n) := Sn.out.below d
  replace hb := hb.trans (d.mono hb.size)
  have St : Hid (Sl w4 vt t) := st
  have HN_t : Hid (t.length ≤ 1000000) := by unfold Hid; have := can_len i_t.1; omega
  have It := i_t
  clear st i_t d
  have Jt : Hid (IsSet t _) := It
  clear It
  go_wp2_with fail
  refine (make_s vaa a _ Sa.out HN_a.out).mono ?_
  rintro e w5 ⟨vu, u, rfl, su, i_u, d⟩
  replace Sa : Hid (Sl w5 vaa a) := Sa.out.below d
  replace Sn : Hid (Sl w5 vn n) := Sn.out.below d
  replace St : Hid (Sl w5 vt t) := St.out.below d
  replace hb := hb.trans (d.mono hb.size)
  have Su : Hid (Sl w5 vu u) := su
  have HN_u : Hid (u.length ≤ 1000000) := by unfold Hid; have := can_len i_u.1; omega
  have Iu := i_u
  clear su i_u d
  have Ju : Hid (IsSet u _) := Iu
  clear Iu
  go_wp2_with fail
  refine (equal_s vt vu t u _ St.out Su.out HN_t.out (Jt.out.eq Ju.out (fun x hx => by rw [Jn.out.2 x hx]; simp))).mono ?_
  rintro e w6 ⟨rfl, d⟩
  replace Sa : Hid (Sl w6 vaa a) := Sa.out.below d
  replace Sn : Hid (Sl w6 vn n) := Sn.out.below d
  replace St : Hid (Sl w6 vt t) := St.out.below d
  replace Su : Hid (Sl w6 vu u) := Su.out.below d
  replace hb := hb.trans (d.mono hb.size)
  clear d
  go_wp2_with fail
  refine (meet_s vaa vn a n _ Sa.out Sn.out HN_a.out HN_n.out).mono ?_
  rintro e w7 ⟨vm, m, rfl, sm, i_m, d⟩
  replace Sa : Hid (Sl w7 vaa a) := Sa.out.below d
  replace Sn : Hid (Sl w7 vn n) := Sn.out.below d
  replace hb := hb.trans (d.mono hb.size)
  have Sm : Hid (Sl w7 vm m) := sm
  have HN_m : Hid (m.length ≤ 1000000) := by unfold Hid; have := can_len i_m.1; omega
  have Im := i_m
  clear sm i_m d
  have Jm : Hid (IsSet m _) := Im
  clear Im
  have em : m = [] := Jm.out.eq (IsSet.self (r := []) trivial) (fun x hx => by rw [Jn.out.2 x hx, has_nil]; simp)
  obtain ⟨am, cm, rfl, _, _⟩ := Sm.out
  have em0 : m.length = 0 := by rw [em]; rfl
  rw [em0]
  have HE : Hid (m = []) := em
  clear Sm em em0
  go_wp2_with fail
  refine (union_s vaa vn a n _ Sa.out Sn.out HN_a.out HN_n.out).mono ?_
  rintro e w8 ⟨vp, p, rfl, sp, i_p, d⟩
  replace Sa : Hid (Sl w8 vaa a) := Sa.out.below d
  replace Sn : Hid (Sl w8 vn n) := Sn.out.below d
  replace hb := hb.trans (d.mono hb.size)
  have Sp : Hid (Sl w8 vp p) := sp
  have HN_p : Hid (p.length ≤ 1000000) := by unfold Hid; have := can_len i_p.1; omega
  have Ip := i_p
  clear sp i_p d
  have Jp : Hid (IsSet p _) := Ip
  clear Ip
  go_wp2_with fail
  refine (not_s (.slice none 0 0) [] _ ⟨none, 0, rfl, RV.nil _ _, fun _ => rfl⟩ (by decide)).mono ?_
  rintro e w9 ⟨vz, z, rfl, sz, i_z, d⟩
  replace Sa : Hid (Sl w9 vaa a) := Sa.out.below d
  replace Sn : Hid (Sl w9 vn n) := Sn.out.below d
  replace Sp : Hid (Sl w9 vp p) := Sp.out.below d
  replace hb := hb.trans (d.mono hb.size)
  have Sz : Hid (Sl w9 vz z) := sz
  have HN_z : Hid (z.length ≤ 1000000) := by unfold Hid; have := can_len i_z.1; omega
  have Iz := i_z
  clear sz i_z d
  have Jz : Hid (IsSet z _) := Iz
  clear Iz
  go_wp2_with fail
  refine (equal_s vp vz p z _ Sp.out Sz.out HN_p.out (Jp.out.eq Jz.out (fun x hx => by rw [Jn.out.2 x hx, has_nil]; simp))).mono ?_
  rintro e w10 ⟨rfl, d⟩
  replace Sa : Hid (Sl w10 vaa a) := Sa.out.below d
  replace Sn : Hid (Sl w10 vn n) := Sn.out.below d
  replace Sp : Hid (Sl w10 vp p) := Sp.out.below d
  replace Sz : Hid (Sl w10 vz z) := Sz.out.below d
  replace hb := hb.trans (d.mono hb.size)
  clear d
  go_wp2_with fail
  refine (awake_any _).mono ?_
  rintro e wl ⟨rfl, d⟩
  go_wp2
  go_ret
  exact ⟨rfl, hb.trans (d.mono hb.size)⟩

set_option maxHeartbeats 4000000 in
theorem law_hold (va : Value) (la : List R) (vb : Value) (lb : List R) (x : Int) (w : World) (ha : Arg w va la) (hb : Arg w vb lb) :
    Calls Try.prog 6 #[va, vb, .int .i64 x] w fun e w' => e = .returned (.bool true) ∧ Below w.heap.size w w' := by
  have Ca := fun W (h : Arg W va la) => short_s va la W h
  have Ha : Hid (Arg w va la) := ha
  have Na := take40 la
  have HN_a : Hid ((la.take 40).length ≤ 1000000) := Na
  clear ha Na
  have Cb := fun W (h : Arg W vb lb) => short_s vb lb W h
  have Hb : Hid (Arg w vb lb) := hb
  have Nb := take40 lb
  have HN_b : Hid ((lb.take 40).length ≤ 1000000) := Nb
  clear hb Nb
  obtain ⟨a, ea⟩ : ∃ x, la.take 40 = x := ⟨_, rfl⟩
  rw [ea] at HN_a
  simp only [ea] at Ca
  clear ea
  obtain ⟨b, eb⟩ : ∃ x, lb.take 40 = x := ⟨_, rfl⟩
  rw [eb] at HN_b
  simp only [eb] at Cb
  clear eb
  have hsp : (code x = true ∧ 0 ≤ x ∧ x ≤ 1114111) ∨ (code x = false ∧ has a x = false ∧ has b x = false ∧ 0 ≤ x ∧ ¬ x ≤ 1114111) ∨ (code x = false ∧ has a x = false ∧ has b x = false ∧ ¬ 0 ≤ x) := by
    by_cases h0 : 0 ≤ x
    · by_cases h1 : x ≤ 1114111
      · exact .inl ⟨(code_iff x).2 ⟨h0, h1⟩, h0, h1⟩
      · exact .inr (.inl ⟨by cases t : code x; rfl; exact absurd ((code_iff x).1 t).2 h1, has_no (Or.inr (by omega)), has_no (Or.inr (by omega)), h0, h1⟩)
    · exact .inr (.inr ⟨by cases t : code x; rfl; exact absurd ((code_iff x).1 t).1 h0, has_no (Or.inl (by omega)), has_no (Or.inl (by omega)), h0⟩)
  have hcs : ∃ (c X Y : Bool), Hid (code x = c) ∧ Hid (has a x = X) ∧ Hid (has b x = Y) ∧ ((c = true ∧ X = true ∧ Y = true ∧ 0 ≤ x ∧ x ≤ 1114111) ∨ (c = true ∧ X = true ∧ Y = false ∧ 0 ≤ x ∧ x ≤ 1114111) ∨ (c = true ∧ X = false ∧ Y = true ∧ 0 ≤ x ∧ x ≤ 1114111) ∨ (c = true ∧ X = false ∧ Y = false ∧ 0 ≤ x ∧ x ≤ 1114111) ∨ (c = false ∧ X = false ∧ Y = false ∧ 0 ≤ x ∧ ¬ x ≤ 1114111) ∨ (c = false ∧ X = false ∧ Y = false ∧ ¬ 0 ≤ x)) := by
    refine ⟨_, _, _, rfl, rfl, rfl, ?_⟩
    rcases hsp with ⟨h1, h2, h3⟩ | ⟨h1, h2, h3, h4, h5⟩ | ⟨h1, h2, h3, h4⟩
    · cases hX : has a x <;> cases hY : has b x <;> simp [h1, h2, h3]
    · simp [h1, h2, h3, h4, h5]
    · simp [h1, h2, h3, h4]
  obtain ⟨c, X, Y, HC, HX, HY, h6⟩ := hcs
  clear hsp
  rcases h6 with ⟨rfl, rfl, rfl, t0, t1⟩ | ⟨rfl, rfl, rfl, t0, t1⟩ | ⟨rfl, rfl, rfl, t0, t1⟩ | ⟨rfl, rfl, rfl, t0, t1⟩ | ⟨rfl, rfl, rfl, t0, t1⟩ | ⟨rfl, rfl, rfl, t0⟩
  all_goals
    go_enter Try.func6, Try.ntmps6
    go_wp2_with fail
    refine (Ca _ Ha.out).mono ?_
    rintro e wz ⟨vaa, rfl, hsa, hz⟩
    subst hz
    have Sa : Hid (Sl _ vaa a) := hsa
    clear hsa Ca
    go_wp2_with fail
    refine (Cb _ Hb.out).mono ?_
    rintro e wz ⟨vab, rfl, hsb, hz⟩
    subst hz
    have Sb : Hid (Sl _ vab b) := hsb
    clear hsb Cb
    clear Ha Hb
    have hb := Below.refl (World.heap ‹World›).size ‹World›
    have D := fun W (h : Sl W vaa a) => has_s vaa a x W h HN_a.out
    rw [HX.out] at D
    go_wp2_with fail
    refine (D _ Sa.out).mono ?_
    rintro e w1 ⟨rfl, d⟩
    replace Sa : Hid (Sl w1 vaa a) := Sa.out.below d
    replace Sb : Hid (Sl w1 vab b) := Sb.out.below d
    replace hb := hb.trans (d.mono hb.size)
    clear d D
    have D := fun W (h : Sl W vab b) => has_s vab b x W h HN_b.out
    rw [HY.out] at D
    go_wp2_with fail
    refine (D _ Sb.out).mono ?_
    rintro e w2 ⟨rfl, d⟩
    replace Sa : Hid (Sl w2 vaa a) := Sa.out.below d
    replace Sb : Hid (Sl w2 vab b) := Sb.out.below d
    replace hb := hb.trans (d.mono hb.size)
    clear d D
    go_wp2_with fail
    refine (union_s vaa vab a b _ Sa.out Sb.out HN_a.out HN_b.out).mono ?_
    rintro e w3 ⟨vp0, p0, rfl, sp0, i_p0, d⟩
    replace Sa : Hid (Sl w3 vaa a) := Sa.out.below d
    replace Sb : Hid (Sl w3 vab b) := Sb.out.below d
    replace hb := hb.trans (d.mono hb.size)
    have Sp0 : Hid (Sl w3 vp0 p0) := sp0
    have HN_p0 : Hid (p0.length ≤ 1000000) := by unfold Hid; have := can_len i_p0.1; omega
    have Ip0 := i_p0
    clear sp0 i_p0 d
    have Jp0 : Hid (IsSet p0 _) := Ip0
    clear Ip0
    have E := Jp0.out.hasEq x
    simp only [HC.out, HX.out, HY.out, Bool.true_and, Bool.false_and, Bool.and_true, Bool.and_false, Bool.or_true, Bool.or_false, Bool.true_or, Bool.false_or, Bool.not_true, Bool.not_false, bne_self_eq_false, Bool.true_bne, Bool.false_bne, Bool.not_true, Bool.not_false] at E
    have D := fun W (h : Sl W vp0 p0) => has_s vp0 p0 x W h HN_p0.out
    rw [E] at D
    clear E
    go_wp2_with fail
    refine (D _ Sp0.out).mono ?_
    rintro e w4 ⟨rfl, d⟩
    replace Sa : Hid (Sl w4 vaa a) := Sa.out.below d
    replace Sb : Hid (Sl w4 vab b) := Sb.out.below d
    replace Sp0 : Hid (Sl w4 vp0 p0) := Sp0.out.below d
    replace hb := hb.trans (d.mono hb.size)
    clear d D
    clear Sp0 Jp0 HN_p0
    go_wp2_with fail
    refine (meet_s vaa vab a b _ Sa.out Sb.out HN_a.out HN_b.out).mono ?_
    rintro e w5 ⟨vp1, p1, rfl, sp1, i_p1, d⟩
    replace Sa : Hid (Sl w5 vaa a) := Sa.out.below d
    replace Sb : Hid (Sl w5 vab b) := Sb.out.below d
    replace hb := hb.trans (d.mono hb.size)
    have Sp1 : Hid (Sl w5 vp1 p1) := sp1
    have HN_p1 : Hid (p1.length ≤ 1000000) := by unfold Hid; have := can_len i_p1.1; omega
    have Ip1 := i_p1
    clear sp1 i_p1 d
    have Jp1 : Hid (IsSet p1 _) := Ip1
    clear Ip1
    have E := Jp1.out.hasEq x
    simp only [HC.out, HX.out, HY.out, Bool.true_and, Bool.false_and, Bool.and_true, Bool.and_false, Bool.or_true, Bool.or_false, Bool.true_or, Bool.false_or, Bool.not_true, Bool.not_false, bne_self_eq_false, Bool.true_bne, Bool.false_bne, Bool.not_true, Bool.not_false] at E
    have D := fun W (h : Sl W vp1 p1) => has_s vp1 p1 x W h HN_p1.out
    rw [E] at D
    clear E
    go_wp2_with fail
    refine (D _ Sp1.out).mono ?_
    rintro e w6 ⟨rfl, d⟩
    replace Sa : Hid (Sl w6 vaa a) := Sa.out.below d
    replace Sb : Hid (Sl w6 vab b) := Sb.out.below d
    replace Sp1 : Hid (Sl w6 vp1 p1) := Sp1.out.below d
    replace hb := hb.trans (d.mono hb.size)
    clear d D
    clear Sp1 Jp1 HN_p1
    go_wp2_with fail
    refine (minus_s vaa vab a b _ Sa.out Sb.out HN_a.out HN_b.out).mono ?_
    rintro e w7 ⟨vp2, p2, rfl, sp2, i_p2, d⟩
    replace Sa : Hid (Sl w7 vaa a) := Sa.out.below d
    replace Sb : Hid (Sl w7 vab b) := Sb.out.below d
    replace hb := hb.trans (d.mono hb.size)
    have Sp2 : Hid (Sl w7 vp2 p2) := sp2
    have HN_p2 : Hid (p2.length ≤ 1000000) := by unfold Hid; have := can_len i_p2.1; omega
    have Ip2 := i_p2
    clear sp2 i_p2 d
    have Jp2 : Hid (IsSet p2 _) := Ip2
    clear Ip2
    have E := Jp2.out.hasEq x
    simp only [HC.out, HX.out, HY.out, Bool.true_and, Bool.false_and, Bool.and_true, Bool.and_false, Bool.or_true, Bool.or_false, Bool.true_or, Bool.false_or, Bool.not_true, Bool.not_false, bne_self_eq_false, Bool.true_bne, Bool.false_bne, Bool.not_true, Bool.not_false] at E
    have D := fun W (h : Sl W vp2 p2) => has_s vp2 p2 x W h HN_p2.out
    rw [E] at D
    clear E
    go_wp2_with fail
    refine (D _ Sp2.out).mono ?_
    rintro e w8 ⟨rfl, d⟩
    replace Sa : Hid (Sl w8 vaa a) := Sa.out.below d
    replace Sb : Hid (Sl w8 vab b) := Sb.out.below d
    replace Sp2 : Hid (Sl w8 vp2 p2) := Sp2.out.below d
    replace hb := hb.trans (d.mono hb.size)
    clear d D
    clear Sp2 Jp2 HN_p2
    go_wp2_with fail
    refine (xor_s vaa vab a b _ Sa.out Sb.out HN_a.out HN_b.out).mono ?_
    rintro e w9 ⟨vp3, p3, rfl, sp3, i_p3, d⟩
    replace Sa : Hid (Sl w9 vaa a) := Sa.out.below d
    replace Sb : Hid (Sl w9 vab b) := Sb.out.below d
    replace hb := hb.trans (d.mono hb.size)
    have Sp3 : Hid (Sl w9 vp3 p3) := sp3
    have HN_p3 : Hid (p3.length ≤ 1000000) := by unfold Hid; have := can_len i_p3.1; omega
    have Ip3 := i_p3
    clear sp3 i_p3 d
    have Jp3 : Hid (IsSet p3 _) := Ip3
    clear Ip3
    have E := Jp3.out.hasEq x
    simp only [HC.out, HX.out, HY.out, Bool.true_and, Bool.false_and, Bool.and_true, Bool.and_false, Bool.or_true, Bool.or_false, Bool.true_or, Bool.false_or, Bool.not_true, Bool.not_false, bne_self_eq_false, Bool.true_bne, Bool.false_bne, Bool.not_true, Bool.not_false] at E
    have D := fun W (h : Sl W vp3 p3) => has_s vp3 p3 x W h HN_p3.out
    rw [E] at D
    clear E
    go_wp2_with fail
    refine (D _ Sp3.out).mono ?_
    rintro e w10 ⟨rfl, d⟩
    replace Sa : Hid (Sl w10 vaa a) := Sa.out.below d
    replace Sb : Hid (Sl w10 vab b) := Sb.out.below d
    replace Sp3 : Hid (Sl w10 vp3 p3) := Sp3.out.below d
    replace hb := hb.trans (d.mono hb.size)
    clear d D
    clear Sp3 Jp3 HN_p3
    go_wp2_with fail
    refine (not_s vaa a _ Sa.out HN_a.out).mono ?_
    rintro e w11 ⟨vn, n, rfl, sn, i_n, d⟩
    replace Sa : Hid (Sl w11 vaa a) := Sa.out.below d
    replace Sb : Hid (Sl w11 vab b) := Sb.out.below d
    replace hb := hb.trans (d.mono hb.size)
    have Sn : Hid (Sl w11 vn n) := sn
    have HN_n : Hid (n.length ≤ 1000000) := by unfold Hid; have := can_len i_n.1; omega
    have In := i_n
    clear sn i_n d
    have Jn : Hid (IsSet n _) := In
    clear In
    have E := Jn.out.hasEq x
    simp only [HC.out, HX.out, HY.out, Bool.true_and, Bool.false_and, Bool.and_true, Bool.and_false, Bool.or_true, Bool.or_false, Bool.true_or, Bool.false_or, Bool.not_true, Bool.not_false, bne_self_eq_false, Bool.true_bne, Bool.false_bne, Bool.not_true, Bool.not_false] at E
    have D := fun W (h : Sl W vn n) => has_s vn n x W h HN_n.out
    rw [E] at D
    clear E
    go_wp2_with fail
    refine (D _ Sn.out).mono ?_
    rintro e w12 ⟨rfl, d⟩
    replace Sa : Hid (Sl w12 vaa a) := Sa.out.below d
    replace Sb : Hid (Sl w12 vab b) := Sb.out.below d
    replace Sn : Hid (Sl w12 vn n) := Sn.out.below d
    replace hb := hb.trans (d.mono hb.size)
    clear d D
    clear Sn Jn HN_n
    have D := fun W (h : Sl W vaa a) => rhas_s vaa a x W h HN_a.out
    rw [HX.out] at D
    go_wp2_with fail
    refine (D _ Sa.out).mono ?_
    rintro e w13 ⟨rfl, d⟩
    replace Sa : Hid (Sl w13 vaa a) := Sa.out.below d
    replace Sb : Hid (Sl w13 vab b) := Sb.out.below d
    replace hb := hb.trans (d.mono hb.size)
    clear d D
    go_wp2_with fail
    refine (awake_any _).mono ?_
    rintro e wl ⟨rfl, d⟩
    go_wp2
    go_ret
    exact ⟨rfl, hb.trans (d.mono hb.size)⟩

set_option maxHeartbeats 4000000 in
theorem law_algebra (va : Value) (la : List R) (vb : Value) (lb : List R) (vc : Value) (lc : List R) (w : World) (ha : Arg w va la) (hb : Arg w vb lb) (hc : Arg w vc lc) :
    Calls Try.prog 7 #[va, vb, vc] w fun e w' => e = .returned (.bool true) ∧ Below w.heap.size w w' := by
  have Ca := fun W (h : Arg W va la) => short_s va la W h
  have Ha : Hid (Arg w va la) := ha
  have Na := take40 la
  have HN_a : Hid ((la.take 40).length ≤ 1000000) := Na
  clear ha Na
  have Cb := fun W (h : Arg W vb lb) => short_s vb lb W h
  have Hb : Hid (Arg w vb lb) := hb
  have Nb := take40 lb
  have HN_b : Hid ((lb.take 40).length ≤ 1000000) := Nb
  clear hb Nb
  have Cc := fun W (h : Arg W vc lc) => short_s vc lc W h
  have Hc : Hid (Arg w vc lc) := hc
  have Nc := take40 lc
  have HN_c : Hid ((lc.take 40).length ≤ 1000000) := Nc
  clear hc Nc
  go_enter Try.func7, Try.ntmps7
  go_wp2_with fail
  refine (Ca _ Ha.out).mono ?_
  rintro e wz ⟨vaa, rfl, hsa, hz⟩
  subst hz
  have Sa : Hid (Sl _ vaa (la.take 40)) := hsa
  clear hsa Ca
  go_wp2_with fail
  refine (Cb _ Hb.out).mono ?_
  rintro e wz ⟨vab, rfl, hsb, hz⟩
  subst hz
  have Sb : Hid (Sl _ vab (lb.take 40)) := hsb
  clear hsb Cb
  go_wp2_with fail
  refine (Cc _ Hc.out).mono ?_
  rintro e wz ⟨vac, rfl, hsc, hz⟩
  subst hz
  have Sc : Hid (Sl _ vac (lc.take 40)) := hsc
  clear hsc Cc
  obtain ⟨a, ea⟩ : ∃ x, la.take 40 = x := ⟨_, rfl⟩
  rw [ea] at Sa HN_a
  clear ea Ha
  obtain ⟨b, eb⟩ : ∃ x, lb.take 40 = x := ⟨_, rfl⟩
  rw [eb] at Sb HN_b
  clear eb Hb
  obtain ⟨c, ec⟩ : ∃ x, lc.take 40 = x := ⟨_, rfl⟩
  rw [ec] at Sc HN_c
  clear ec Hc
  have hb := Below.refl (World.heap ‹World›).size ‹World›
  go_wp2_with fail
  refine (union_s vab vac b c _ Sb.out Sc.out HN_b.out HN_c.out).mono ?_
  rintro e w1 ⟨vp, p, rfl, sp, i_p, d⟩
  replace Sa : Hid (Sl w1 vaa a) := Sa.out.below d
  replace Sb : Hid (Sl w1 vab b) := Sb.out.below d
  replace Sc : Hid (Sl w1 vac c) := Sc.out.below d
  replace hb := hb.trans (d.mono hb.size)
  have Sp : Hid (Sl w1 vp p) := sp
  have HN_p : Hid (p.length ≤ 1000000) := by unfold Hid; have := can_len i_p.1; omega
  have Ip := i_p
  clear sp i_p d
  have Jp : Hid (IsSet p _) := Ip
  clear Ip
  go_wp2_with fail
  refine (union_s vaa vp a p _ Sa.out Sp.out HN_a.out HN_p.out).mono ?_
  rintro e w2 ⟨vq, q, rfl, sq, i_q, d⟩
  replace Sa : Hid (Sl w2 vaa a) := Sa.out.below d
  replace Sb : Hid (Sl w2 vab b) := Sb.out.below d
  replace Sc : Hid (Sl w2 vac c) := Sc.out.below d
  replace Sp : Hid (Sl w2 vp p) := Sp.out.below d
  replace hb := hb.trans (d.mono hb.size)
  have Sq : Hid (Sl w2 vq q) := sq
  have HN_q : Hid (q.length ≤ 1000000) := by unfold Hid; have := can_len i_q.1; omega
  have Iq := i_q
  clear sq i_q d
  have Jq : Hid (IsSet q _) := Iq
  clear Iq
  go_wp2_with fail
  refine (union_s vaa vab a b _ Sa.out Sb.out HN_a.out HN_b.out).mono ?_
  rintro e w3 ⟨vr, r, rfl, sr, i_r, d⟩
  replace Sa : Hid (Sl w3 vaa a) := Sa.out.below d
  replace Sb : Hid (Sl w3 vab b) := Sb.out.below d
  replace Sc : Hid (Sl w3 vac c) := Sc.out.below d
  replace Sp : Hid (Sl w3 vp p) := Sp.out.below d
  replace Sq : Hid (Sl w3 vq q) := Sq.out.below d
  replace hb := hb.trans (d.mono hb.size)
  have Sr : Hid (Sl w3 vr r) := sr
  have HN_r : Hid (r.length ≤ 1000000) := by unfold Hid; have := can_len i_r.1; omega
  have Ir := i_r
  clear sr i_r d
  have Jr : Hid (IsSet r _) := Ir
  clear Ir
  go_wp2_with fail
  refine (union_s vr vac r c _ Sr.out Sc.out HN_r.out HN_c.out).mono ?_
  rintro e w4 ⟨vs, s, rfl, ss, i_s, d⟩
  replace Sa : Hid (Sl w4 vaa a) := Sa.out.below d
  replace Sb : Hid (Sl w4 vab b) := Sb.out.below d
  replace Sc : Hid (Sl w4 vac c) := Sc.out.below d
  replace Sp : Hid (Sl w4 vp p) := Sp.out.below d
  replace Sq : Hid (Sl w4 vq q) := Sq.out.below d
  replace Sr : Hid (Sl w4 vr r) := Sr.out.below d
  replace hb := hb.trans (d.mono hb.size)
  have Ss : Hid (Sl w4 vs s) := ss
  have HN_s : Hid (s.length ≤ 1000000) := by unfold Hid; have := can_len i_s.1; omega
  have Is := i_s
  clear ss i_s d
  have Js : Hid (IsSet s _) := Is
  clear Is
  go_wp2_with fail
  refine (equal_s vq vs q s _ Sq.out Ss.out HN_q.out (Jq.out.eq Js.out (fun x hx => by simp only [Jp.out.hasEq, Jr.out.hasEq, hx, Bool.true_and]; cases has a x <;> cases has b x <;> cases has c x <;> rfl))).mono ?_
  rintro e w5 ⟨rfl, d⟩
  replace Sa : Hid (Sl w5 vaa a) := Sa.out.below d
  replace Sb : Hid (Sl w5 vab b) := Sb.out.below d
  replace Sc : Hid (Sl w5 vac c) := Sc.out.below d
  replace Sp : Hid (Sl w5 vp p) := Sp.out.below d
  replace Sq : Hid (Sl w5 vq q) := Sq.out.below d
  replace Sr : Hid (Sl w5 vr r) := Sr.out.below d
  replace Ss : Hid (Sl w5 vs s) := Ss.out.below d
  replace hb := hb.trans (d.mono hb.size)
  clear d
  clear Sp Jp HN_p Sq Jq HN_q Sr Jr HN_r Ss Js HN_s
  go_wp2_with fail
  refine (union_s vab vac b c _ Sb.out Sc.out HN_b.out HN_c.out).mono ?_
  rintro e w6 ⟨vp, p, rfl, sp, i_p, d⟩
  replace Sa : Hid (Sl w6 vaa a) := Sa.out.below d
  replace Sb : Hid (Sl w6 vab b) := Sb.out.below d
  replace Sc : Hid (Sl w6 vac c) := Sc.out.below d
  replace hb := hb.trans (d.mono hb.size)
  have Sp : Hid (Sl w6 vp p) := sp
  have HN_p : Hid (p.length ≤ 1000000) := by unfold Hid; have := can_len i_p.1; omega
  have Ip := i_p
  clear sp i_p d
  have Jp : Hid (IsSet p _) := Ip
  clear Ip
  go_wp2_with fail
  refine (meet_s vaa vp a p _ Sa.out Sp.out HN_a.out HN_p.out).mono ?_
  rintro e w7 ⟨vq, q, rfl, sq, i_q, d⟩
  replace Sa : Hid (Sl w7 vaa a) := Sa.out.below d
  replace Sb : Hid (Sl w7 vab b) := Sb.out.below d
  replace Sc : Hid (Sl w7 vac c) := Sc.out.below d
  replace Sp : Hid (Sl w7 vp p) := Sp.out.below d
  replace hb := hb.trans (d.mono hb.size)
  have Sq : Hid (Sl w7 vq q) := sq
  have HN_q : Hid (q.length ≤ 1000000) := by unfold Hid; have := can_len i_q.1; omega
  have Iq := i_q
  clear sq i_q d
  have Jq : Hid (IsSet q _) := Iq
  clear Iq
  go_wp2_with fail
  refine (meet_s vaa vab a b _ Sa.out Sb.out HN_a.out HN_b.out).mono ?_
  rintro e w8 ⟨vr, r, rfl, sr, i_r, d⟩
  replace Sa : Hid (Sl w8 vaa a) := Sa.out.below d
  replace Sb : Hid (Sl w8 vab b) := Sb.out.below d
  replace Sc : Hid (Sl w8 vac c) := Sc.out.below d
  replace Sp : Hid (Sl w8 vp p) := Sp.out.below d
  replace Sq : Hid (Sl w8 vq q) := Sq.out.below d
  replace hb := hb.trans (d.mono hb.size)
  have Sr : Hid (Sl w8 vr r) := sr
  have HN_r : Hid (r.length ≤ 1000000) := by unfold Hid; have := can_len i_r.1; omega
  have Ir := i_r
  clear sr i_r d
  have Jr : Hid (IsSet r _) := Ir
  clear Ir
  go_wp2_with fail
  refine (meet_s vaa vac a c _ Sa.out Sc.out HN_a.out HN_c.out).mono ?_
  rintro e w9 ⟨vs, s, rfl, ss, i_s, d⟩
  replace Sa : Hid (Sl w9 vaa a) := Sa.out.below d
  replace Sb : Hid (Sl w9 vab b) := Sb.out.below d
  replace Sc : Hid (Sl w9 vac c) := Sc.out.below d
  replace Sp : Hid (Sl w9 vp p) := Sp.out.below d
  replace Sq : Hid (Sl w9 vq q) := Sq.out.below d
  replace Sr : Hid (Sl w9 vr r) := Sr.out.below d
  replace hb := hb.trans (d.mono hb.size)
  have Ss : Hid (Sl w9 vs s) := ss
  have HN_s : Hid (s.length ≤ 1000000) := by unfold Hid; have := can_len i_s.1; omega
  have Is := i_s
  clear ss i_s d
  have Js : Hid (IsSet s _) := Is
  clear Is
  go_wp2_with fail
  refine (union_s vr vs r s _ Sr.out Ss.out HN_r.out HN_s.out).mono ?_
  rintro e w10 ⟨vt, t, rfl, st, i_t, d⟩
  replace Sa : Hid (Sl w10 vaa a) := Sa.out.below d
  replace Sb : Hid (Sl w10 vab b) := Sb.out.below d
  replace Sc : Hid (Sl w10 vac c) := Sc.out.below d
  replace Sp : Hid (Sl w10 vp p) := Sp.out.below d
  replace Sq : Hid (Sl w10 vq q) := Sq.out.below d
  replace Sr : Hid (Sl w10 vr r) := Sr.out.below d
  replace Ss : Hid (Sl w10 vs s) := Ss.out.below d
  replace hb := hb.trans (d.mono hb.size)
  have St : Hid (Sl w10 vt t) := st
  have HN_t : Hid (t.length ≤ 1000000) := by unfold Hid; have := can_len i_t.1; omega
  have It := i_t
  clear st i_t d
  have Jt : Hid (IsSet t _) := It
  clear It
  go_wp2_with fail
  refine (equal_s vq vt q t _ Sq.out St.out HN_q.out (Jq.out.eq Jt.out (fun x hx => by simp only [Jp.out.hasEq, Jr.out.hasEq, Js.out.hasEq, hx, Bool.true_and]; cases has a x <;> cases has b x <;> cases has c x <;> rfl))).mono ?_
  rintro e w11 ⟨rfl, d⟩
  replace Sa : Hid (Sl w11 vaa a) := Sa.out.below d
  replace Sb : Hid (Sl w11 vab b) := Sb.out.below d
  replace Sc : Hid (Sl w11 vac c) := Sc.out.below d
  replace Sp : Hid (Sl w11 vp p) := Sp.out.below d
  replace Sq : Hid (Sl w11 vq q) := Sq.out.below d
  replace Sr : Hid (Sl w11 vr r) := Sr.out.below d
  replace Ss : Hid (Sl w11 vs s) := Ss.out.below d
  replace St : Hid (Sl w11 vt t) := St.out.below d
  replace hb := hb.trans (d.mono hb.size)
  clear d
  clear Sp Jp HN_p Sq Jq HN_q Sr Jr HN_r Ss Js HN_s St Jt HN_t
  go_wp2_with fail
  refine (union_s vaa vab a b _ Sa.out Sb.out HN_a.out HN_b.out).mono ?_
  rintro e w12 ⟨vp, p, rfl, sp, i_p, d⟩
  replace Sa : Hid (Sl w12 vaa a) := Sa.out.below d
  replace Sb : Hid (Sl w12 vab b) := Sb.out.below d
  replace Sc : Hid (Sl w12 vac c) := Sc.out.below d
  replace hb := hb.trans (d.mono hb.size)
  have Sp : Hid (Sl w12 vp p) := sp
  have HN_p : Hid (p.length ≤ 1000000) := by unfold Hid; have := can_len i_p.1; omega
  have Ip := i_p
  clear sp i_p d
  have Jp : Hid (IsSet p _) := Ip
  clear Ip
  go_wp2_with fail
  refine (not_s vp p _ Sp.out HN_p.out).mono ?_
  rintro e w13 ⟨vq, q, rfl, sq, i_q, d⟩
  replace Sa : Hid (Sl w13 vaa a) := Sa.out.below d
  replace Sb : Hid (Sl w13 vab b) := Sb.out.below d
  replace Sc : Hid (Sl w13 vac c) := Sc.out.below d
  replace Sp : Hid (Sl w13 vp p) := Sp.out.below d
  replace hb := hb.trans (d.mono hb.size)
  have Sq : Hid (Sl w13 vq q) := sq
  have HN_q : Hid (q.length ≤ 1000000) := by unfold Hid; have := can_len i_q.1; omega
  have Iq := i_q
  clear sq i_q d
  have Jq : Hid (IsSet q _) := Iq
  clear Iq
  go_wp2_with fail
  refine (not_s vaa a _ Sa.out HN_a.out).mono ?_
  rintro e w14 ⟨vr, r, rfl, sr, i_r, d⟩
  replace Sa : Hid (Sl w14 vaa a) := Sa.out.below d
  replace Sb : Hid (Sl w14 vab b) := Sb.out.below d
  replace Sc : Hid (Sl w14 vac c) := Sc.out.below d
  replace Sp : Hid (Sl w14 vp p) := Sp.out.below d
  replace Sq : Hid (Sl w14 vq q) := Sq.out.below d
  replace hb := hb.trans (d.mono hb.size)
  have Sr : Hid (Sl w14 vr r) := sr
  have HN_r : Hid (r.length ≤ 1000000) := by unfold Hid; have := can_len i_r.1; omega
  have Ir := i_r
  clear sr i_r d
  have Jr : Hid (IsSet r _) := Ir
  clear Ir
  go_wp2_with fail
  refine (not_s vab b _ Sb.out HN_b.out).mono ?_
  rintro e w15 ⟨vs, s, rfl, ss, i_s, d⟩
  replace Sa : Hid (Sl w15 vaa a) := Sa.out.below d
  replace Sb : Hid (Sl w15 vab b) := Sb.out.below d
  replace Sc : Hid (Sl w15 vac c) := Sc.out.below d
  replace Sp : Hid (Sl w15 vp p) := Sp.out.below d
  replace Sq : Hid (Sl w15 vq q) := Sq.out.below d
  replace Sr : Hid (Sl w15 vr r) := Sr.out.below d
  replace hb := hb.trans (d.mono hb.size)
  have Ss : Hid (Sl w15 vs s) := ss
  have HN_s : Hid (s.length ≤ 1000000) := by unfold Hid; have := can_len i_s.1; omega
  have Is := i_s
  clear ss i_s d
  have Js : Hid (IsSet s _) := Is
  clear Is
  go_wp2_with fail
  refine (meet_s vr vs r s _ Sr.out Ss.out HN_r.out HN_s.out).mono ?_
  rintro e w16 ⟨vt, t, rfl, st, i_t, d⟩
  replace Sa : Hid (Sl w16 vaa a) := Sa.out.below d
  replace Sb : Hid (Sl w16 vab b) := Sb.out.below d
  replace Sc : Hid (Sl w16 vac c) := Sc.out.below d
  replace Sp : Hid (Sl w16 vp p) := Sp.out.below d
  replace Sq : Hid (Sl w16 vq q) := Sq.out.below d
  replace Sr : Hid (Sl w16 vr r) := Sr.out.below d
  replace Ss : Hid (Sl w16 vs s) := Ss.out.below d
  replace hb := hb.trans (d.mono hb.size)
  have St : Hid (Sl w16 vt t) := st
  have HN_t : Hid (t.length ≤ 1000000) := by unfold Hid; have := can_len i_t.1; omega
  have It := i_t
  clear st i_t d
  have Jt : Hid (IsSet t _) := It
  clear It
  go_wp2_with fail
  refine (equal_s vq vt q t _ Sq.out St.out HN_q.out (Jq.out.eq Jt.out (fun x hx => by simp only [Jp.out.hasEq, Jr.out.hasEq, Js.out.hasEq, hx, Bool.true_and]; cases has a x <;> cases has b x <;> cases has c x <;> rfl))).mono ?_
  rintro e w17 ⟨rfl, d⟩
  replace Sa : Hid (Sl w17 vaa a) := Sa.out.below d
  replace Sb : Hid (Sl w17 vab b) := Sb.out.below d
  replace Sc : Hid (Sl w17 vac c) := Sc.out.below d
  replace Sp : Hid (Sl w17 vp p) := Sp.out.below d
  replace Sq : Hid (Sl w17 vq q) := Sq.out.below d
  replace Sr : Hid (Sl w17 vr r) := Sr.out.below d
  replace Ss : Hid (Sl w17 vs s) := Ss.out.below d
  replace St : Hid (Sl w17 vt t) := St.out.below d
  replace hb := hb.trans (d.mono hb.size)
  clear d
  clear Sp Jp HN_p Sq Jq HN_q Sr Jr HN_r Ss Js HN_s St Jt HN_t
  go_wp2_with fail
  refine (xor_s vaa vab a b _ Sa.out Sb.out HN_a.out HN_b.out).mono ?_
  rintro e w18 ⟨vp, p, rfl, sp, i_p, d⟩
  replace Sa : Hid (Sl w18 vaa a) := Sa.out.below d
  replace Sb : Hid (Sl w18 vab b) := Sb.out.below d
  replace Sc : Hid (Sl w18 vac c) := Sc.out.below d
  replace hb := hb.trans (d.mono hb.size)
  have Sp : Hid (Sl w18 vp p) := sp
  have HN_p : Hid (p.length ≤ 1000000) := by unfold Hid; have := can_len i_p.1; omega
  have Ip := i_p
  clear sp i_p d
  have Jp : Hid (IsSet p _) := Ip
  clear Ip
  go_wp2_with fail
  refine (xor_s vp vab p b _ Sp.out Sb.out HN_p.out HN_b.out).mono ?_
  rintro e w19 ⟨vq, q, rfl, sq, i_q, d⟩
  replace Sa : Hid (Sl w19 vaa a) := Sa.out.below d
  replace Sb : Hid (Sl w19 vab b) := Sb.out.below d
  replace Sc : Hid (Sl w19 vac c) := Sc.out.below d
  replace Sp : Hid (Sl w19 vp p) := Sp.out.below d
  replace hb := hb.trans (d.mono hb.size)
  have Sq : Hid (Sl w19 vq q) := sq
  have HN_q : Hid (q.length ≤ 1000000) := by unfold Hid; have := can_len i_q.1; omega
  have Iq := i_q
  clear sq i_q d
  have Jq : Hid (IsSet q _) := Iq
  clear Iq
  go_wp2_with fail
  refine (make_s vaa a _ Sa.out HN_a.out).mono ?_
  rintro e w20 ⟨vr, r, rfl, sr, i_r, d⟩
  replace Sa : Hid (Sl w20 vaa a) := Sa.out.below d
  replace Sb : Hid (Sl w20 vab b) := Sb.out.below d
  replace Sc : Hid (Sl w20 vac c) := Sc.out.below d
  replace Sp : Hid (Sl w20 vp p) := Sp.out.below d
  replace Sq : Hid (Sl w20 vq q) := Sq.out.below d
  replace hb := hb.trans (d.mono hb.size)
  have Sr : Hid (Sl w20 vr r) := sr
  have HN_r : Hid (r.length ≤ 1000000) := by unfold Hid; have := can_len i_r.1; omega
  have Ir := i_r
  clear sr i_r d
  have Jr : Hid (IsSet r _) := Ir
  clear Ir
  go_wp2_with fail
  refine (equal_s vq vr q r _ Sq.out Sr.out HN_q.out (Jq.out.eq Jr.out (fun x hx => by simp only [Jp.out.hasEq, hx, Bool.true_and]; cases has a x <;> cases has b x <;> cases has c x <;> rfl))).mono ?_
  rintro e w21 ⟨rfl, d⟩
  replace Sa : Hid (Sl w21 vaa a) := Sa.out.below d
  replace Sb : Hid (Sl w21 vab b) := Sb.out.below d
  replace Sc : Hid (Sl w21 vac c) := Sc.out.below d
  replace Sp : Hid (Sl w21 vp p) := Sp.out.below d
  replace Sq : Hid (Sl w21 vq q) := Sq.out.below d
  replace Sr : Hid (Sl w21 vr r) := Sr.out.below d
  replace hb := hb.trans (d.mono hb.size)
  clear d
  clear Sp Jp HN_p Sq Jq HN_q Sr Jr HN_r
  go_wp2_with fail
  refine (union_s vaa vab a b _ Sa.out Sb.out HN_a.out HN_b.out).mono ?_
  rintro e w22 ⟨vp, p, rfl, sp, i_p, d⟩
  replace Sa : Hid (Sl w22 vaa a) := Sa.out.below d
  replace Sb : Hid (Sl w22 vab b) := Sb.out.below d
  replace Sc : Hid (Sl w22 vac c) := Sc.out.below d
  replace hb := hb.trans (d.mono hb.size)
  have Sp : Hid (Sl w22 vp p) := sp
  have HN_p : Hid (p.length ≤ 1000000) := by unfold Hid; have := can_len i_p.1; omega
  have Ip := i_p
  clear sp i_p d
  have Jp : Hid (IsSet p _) := Ip
  clear Ip
  go_wp2_with fail
  refine (union_s vab vaa b a _ Sb.out Sa.out HN_b.out HN_a.out).mono ?_
  rintro e w23 ⟨vq, q, rfl, sq, i_q, d⟩
  replace Sa : Hid (Sl w23 vaa a) := Sa.out.below d
  replace Sb : Hid (Sl w23 vab b) := Sb.out.below d
  replace Sc : Hid (Sl w23 vac c) := Sc.out.below d
  replace Sp : Hid (Sl w23 vp p) := Sp.out.below d
  replace hb := hb.trans (d.mono hb.size)
  have Sq : Hid (Sl w23 vq q) := sq
  have HN_q : Hid (q.length ≤ 1000000) := by unfold Hid; have := can_len i_q.1; omega
  have Iq := i_q
  clear sq i_q d
  have Jq : Hid (IsSet q _) := Iq
  clear Iq
  go_wp2_with fail
  refine (equal_s vp vq p q _ Sp.out Sq.out HN_p.out (Jp.out.eq Jq.out (fun x hx => by cases has a x <;> cases has b x <;> rfl))).mono ?_
  rintro e w24 ⟨rfl, d⟩
  replace Sa : Hid (Sl w24 vaa a) := Sa.out.below d
  replace Sb : Hid (Sl w24 vab b) := Sb.out.below d
  replace Sc : Hid (Sl w24 vac c) := Sc.out.below d
  replace Sp : Hid (Sl w24 vp p) := Sp.out.below d
  replace Sq : Hid (Sl w24 vq q) := Sq.out.below d
  replace hb := hb.trans (d.mono hb.size)
  clear d
  clear Sp Jp HN_p Sq Jq HN_q
  go_wp2_with fail
  refine (awake_any _).mono ?_
  rintro e wl ⟨rfl, d⟩
  go_wp2
  go_ret
  exact ⟨rfl, hb.trans (d.mono hb.size)⟩

set_option maxHeartbeats 4000000 in
theorem law_count (va : Value) (la : List R) (vb : Value) (lb : List R) (w : World) (ha : Arg w va la) (hb : Arg w vb lb) :
    Calls Try.prog 8 #[va, vb] w fun e w' => e = .returned (.bool true) ∧ Below w.heap.size w w' := by
  have Ca := fun W (h : Arg W va la) => short_s va la W h
  have Ha : Hid (Arg w va la) := ha
  have Na := take40 la
  have HN_a : Hid ((la.take 40).length ≤ 1000000) := Na
  clear ha Na
  have Cb := fun W (h : Arg W vb lb) => short_s vb lb W h
  have Hb : Hid (Arg w vb lb) := hb
  have Nb := take40 lb
  have HN_b : Hid ((lb.take 40).length ≤ 1000000) := Nb
  clear hb Nb
  go_enter Try.func8, Try.ntmps8
  go_wp2_with fail
  refine (Ca _ Ha.out).mono ?_
  rintro e wz ⟨vaa, rfl, hsa, hz⟩
  subst hz
  have Sa : Hid (Sl _ vaa (la.take 40)) := hsa
  clear hsa Ca
  go_wp2_with fail
  refine (Cb _ Hb.out).mono ?_
  rintro e wz ⟨vab, rfl, hsb, hz⟩
  subst hz
  have Sb : Hid (Sl _ vab (lb.take 40)) := hsb
  clear hsb Cb
  obtain ⟨a, ea⟩ : ∃ x, la.take 40 = x := ⟨_, rfl⟩
  rw [ea] at Sa HN_a
  clear ea Ha
  obtain ⟨b, eb⟩ : ∃ x, lb.take 40 = x := ⟨_, rfl⟩
  rw [eb] at Sb HN_b
  clear eb Hb
  have hb := Below.refl (World.heap ‹World›).size ‹World›
  go_wp2_with fail
  refine (union_s vaa vab a b _ Sa.out Sb.out HN_a.out HN_b.out).mono ?_
  rintro e w1 ⟨vp, p, rfl, sp, i_p, d⟩
  replace Sa : Hid (Sl w1 vaa a) := Sa.out.below d
  replace Sb : Hid (Sl w1 vab b) := Sb.out.below d
  replace hb := hb.trans (d.mono hb.size)
  have Sp : Hid (Sl w1 vp p) := sp
  have HN_p : Hid (p.length ≤ 1000000) := by unfold Hid; have := can_len i_p.1; omega
  have Ip := i_p
  clear sp i_p d
  have Jp : Hid (IsSet p _) := Ip
  clear Ip
  go_wp2_with fail
  refine (size_s vp p _ Sp.out HN_p.out).mono ?_
  rintro e w2 ⟨sp, rfl, i_sp, d⟩
  replace Sa : Hid (Sl w2 vaa a) := Sa.out.below d
  replace Sb : Hid (Sl w2 vab b) := Sb.out.below d
  replace Sp : Hid (Sl w2 vp p) := Sp.out.below d
  replace hb := hb.trans (d.mono hb.size)
  have Isp : Hid (IsSet sp (has p)) := i_sp
  have gsp := tot_le i_sp.1
  have g2 := nxt_le sp 0 (by omega) i_sp.1
  obtain ⟨glsp, ghsp⟩ : 0 ≤ tot sp ∧ tot sp ≤ 1114113 := by omega
  clear i_sp d gsp g2
  obtain ⟨tsp, htsp⟩ : ∃ t, tot sp = t := ⟨_, rfl⟩
  have HTsp : Hid (tot sp = tsp) := htsp
  rw [htsp] at glsp ghsp ⊢
  clear htsp
  go_wp2_with fail
  refine (meet_s vaa vab a b _ Sa.out Sb.out HN_a.out HN_b.out).mono ?_
  rintro e w3 ⟨vq, q, rfl, sq, i_q, d⟩
  replace Sa : Hid (Sl w3 vaa a) := Sa.out.below d
  replace Sb : Hid (Sl w3 vab b) := Sb.out.below d
  replace Sp : Hid (Sl w3 vp p) := Sp.out.below d
  replace hb := hb.trans (d.mono hb.size)
  have Sq : Hid (Sl w3 vq q) := sq
  have HN_q : Hid (q.length ≤ 1000000) := by unfold Hid; have := can_len i_q.1; omega
  have Iq := i_q
  clear sq i_q d
  have Jq : Hid (IsSet q _) := Iq
  clear Iq
  go_wp2_with fail
  refine (size_s vq q _ Sq.out HN_q.out).mono ?_
  rintro e w4 ⟨sq, rfl, i_sq, d⟩
  replace Sa : Hid (Sl w4 vaa a) := Sa.out.below d
  replace Sb : Hid (Sl w4 vab b) := Sb.out.below d
  replace Sp : Hid (Sl w4 vp p) := Sp.out.below d
  replace Sq : Hid (Sl w4 vq q) := Sq.out.below d
  replace hb := hb.trans (d.mono hb.size)
  have Isq : Hid (IsSet sq (has q)) := i_sq
  have gsq := tot_le i_sq.1
  have g2 := nxt_le sq 0 (by omega) i_sq.1
  obtain ⟨glsq, ghsq⟩ : 0 ≤ tot sq ∧ tot sq ≤ 1114113 := by omega
  clear i_sq d gsq g2
  obtain ⟨tsq, htsq⟩ : ∃ t, tot sq = t := ⟨_, rfl⟩
  have HTsq : Hid (tot sq = tsq) := htsq
  rw [htsq] at glsq ghsq ⊢
  clear htsq
  go_wp2_with fail
  refine (size_s vaa a _ Sa.out HN_a.out).mono ?_
  rintro e w5 ⟨sa, rfl, i_sa, d⟩
  replace Sa : Hid (Sl w5 vaa a) := Sa.out.below d
  replace Sb : Hid (Sl w5 vab b) := Sb.out.below d
  replace Sp : Hid (Sl w5 vp p) := Sp.out.below d
  replace Sq : Hid (Sl w5 vq q) := Sq.out.below d
  replace hb := hb.trans (d.mono hb.size)
  have Isa : Hid (IsSet sa (has a)) := i_sa
  have gsa := tot_le i_sa.1
  have g2 := nxt_le sa 0 (by omega) i_sa.1
  obtain ⟨glsa, ghsa⟩ : 0 ≤ tot sa ∧ tot sa ≤ 1114113 := by omega
  clear i_sa d gsa g2
  obtain ⟨tsa, htsa⟩ : ∃ t, tot sa = t := ⟨_, rfl⟩
  have HTsa : Hid (tot sa = tsa) := htsa
  rw [htsa] at glsa ghsa ⊢
  clear htsa
  go_wp2_with fail
  refine (size_s vab b _ Sb.out HN_b.out).mono ?_
  rintro e w6 ⟨sb, rfl, i_sb, d⟩
  replace Sa : Hid (Sl w6 vaa a) := Sa.out.below d
  replace Sb : Hid (Sl w6 vab b) := Sb.out.below d
  replace Sp : Hid (Sl w6 vp p) := Sp.out.below d
  replace Sq : Hid (Sl w6 vq q) := Sq.out.below d
  replace hb := hb.trans (d.mono hb.size)
  have Isb : Hid (IsSet sb (has b)) := i_sb
  have gsb := tot_le i_sb.1
  have g2 := nxt_le sb 0 (by omega) i_sb.1
  obtain ⟨glsb, ghsb⟩ : 0 ≤ tot sb ∧ tot sb ≤ 1114113 := by omega
  clear i_sb d gsb g2
  obtain ⟨tsb, htsb⟩ : ∃ t, tot sb = t := ⟨_, rfl⟩
  have HTsb : Hid (tot sb = tsb) := htsb
  rw [htsb] at glsb ghsb ⊢
  clear htsb
  have EQ : (tsp + tsq == tsa + tsb) = true := by
    have := tot_both Isp.out.1 Isq.out.1 Isa.out.1 Isb.out.1 (fun x => by rw [Isp.out.hasEq, Jp.out.hasEq, Isa.out.hasEq, Isb.out.hasEq]; cases code x <;> rfl) (fun x => by rw [Isq.out.hasEq, Jq.out.hasEq, Isa.out.hasEq, Isb.out.hasEq]; cases code x <;> simp)
    rw [HTsp.out, HTsq.out, HTsa.out, HTsb.out] at this
    simpa using this
  go_wp2_with fail
  refine (not_s vaa a _ Sa.out HN_a.out).mono ?_
  rintro e w7 ⟨vn, n, rfl, sn, i_n, d⟩
  replace Sa : Hid (Sl w7 vaa a) := Sa.out.below d
  replace Sb : Hid (Sl w7 vab b) := Sb.out.below d
  replace Sp : Hid (Sl w7 vp p) := Sp.out.below d
  replace Sq : Hid (Sl w7 vq q) := Sq.out.below d
  replace hb := hb.trans (d.mono hb.size)
  have Sn : Hid (Sl w7 vn n) := sn
  have HN_n : Hid (n.length ≤ 1000000) := by unfold Hid; have := can_len i_n.1; omega
  have In := i_n
  clear sn i_n d
  have Jn : Hid (IsSet n _) := In
  clear In
  go_wp2_with fail
  refine (size_s vn n _ Sn.out HN_n.out).mono ?_
  rintro e w8 ⟨sn, rfl, i_sn, d⟩
  replace Sa : Hid (Sl w8 vaa a) := Sa.out.below d
  replace Sb : Hid (Sl w8 vab b) := Sb.out.below d
  replace Sp : Hid (Sl w8 vp p) := Sp.out.below d
  replace Sq : Hid (Sl w8 vq q) := Sq.out.below d
  replace Sn : Hid (Sl w8 vn n) := Sn.out.below d
  replace hb := hb.trans (d.mono hb.size)
  have Isn : Hid (IsSet sn (has n)) := i_sn
  have gsn := tot_le i_sn.1
  have g2 := nxt_le sn 0 (by omega) i_sn.1
  obtain ⟨glsn, ghsn⟩ : 0 ≤ tot sn ∧ tot sn ≤ 1114113 := by omega
  clear i_sn d gsn g2
  obtain ⟨tsn, htsn⟩ : ∃ t, tot sn = t := ⟨_, rfl⟩
  have HTsn : Hid (tot sn = tsn) := htsn
  rw [htsn] at glsn ghsn ⊢
  clear htsn
  go_wp2_with fail
  refine (size_s vaa a _ Sa.out HN_a.out).mono ?_
  rintro e w9 ⟨sc, rfl, i_sc, d⟩
  replace Sa : Hid (Sl w9 vaa a) := Sa.out.below d
  replace Sb : Hid (Sl w9 vab b) := Sb.out.below d
  replace Sp : Hid (Sl w9 vp p) := Sp.out.below d
  replace Sq : Hid (Sl w9 vq q) := Sq.out.below d
  replace Sn : Hid (Sl w9 vn n) := Sn.out.below d
  replace hb := hb.trans (d.mono hb.size)
  have Isc : Hid (IsSet sc (has a)) := i_sc
  have gsc := tot_le i_sc.1
  have g2 := nxt_le sc 0 (by omega) i_sc.1
  obtain ⟨glsc, ghsc⟩ : 0 ≤ tot sc ∧ tot sc ≤ 1114113 := by omega
  clear i_sc d gsc g2
  obtain ⟨tsc, htsc⟩ : ∃ t, tot sc = t := ⟨_, rfl⟩
  have HTsc : Hid (tot sc = tsc) := htsc
  rw [htsc] at glsc ghsc ⊢
  clear htsc
  have EQ2 : (tsn == 1114112 - tsc) = true := by
    have := tot_not Isn.out.1 Isc.out.1 (fun x => by rw [Isn.out.hasEq, Jn.out.hasEq, Isc.out.hasEq]; cases code x <;> rfl)
    rw [HTsn.out, HTsc.out] at this
    simpa using this
  go_wp2_with fail
  refine (awake_any _).mono ?_
  rintro e wl ⟨rfl, d⟩
  go_wp2
  go_ret
  exact ⟨rfl, hb.trans (d.mono hb.size)⟩

end Go.Proofs.Ytjbmdbjggelilaa.rng
