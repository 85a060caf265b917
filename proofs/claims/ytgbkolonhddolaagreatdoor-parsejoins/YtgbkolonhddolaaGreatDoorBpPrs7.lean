import Derived.Test.YtgbkolonhddolaaGreatDoorBpPrs6
set_option linter.unusedSectionVars false
set_option linter.unusedSimpArgs false
set_option linter.unusedVariables false
set_option maxRecDepth 100000
set_option maxHeartbeats 1000000
theorem Go.Proofs.YtgbkolonhddolaaGreatDoor.hd24{p:Prop}(h:p):Go.RowKit.Hid p:=h
namespace Go.Proofs.YtgbkolonhddolaaGreatDoor.prs
open Go.RowKit nod tok
open rng(R RV info_parts)
open lin(BA)
/--What stands within a class's brackets, with a sign. -/
def fV(d:Cl)(g:Bool):Nd:=if d.mode=0 then nd 3 0 0 0 g [] d.mem else nd 3 d.mode 0 0 g [] [d.left,nd 3 0 0 0 false [] d.mem]
theorem xx(d:Cl):fV d false=d.inner:=by unfold fV Cl.inner;split<;>rfl
theorem zK(d:Cl):fV d d.neg=d.node:=by unfold fV Cl.node;split<;>rfl
theorem fz_two{P:Nat→Prop}{w:World}{t u:Nd}{x y:Nv}{k m a b:Int}{g:Bool}{n:ByteArray}{q:Nat}(hq:Bk w q #[.int .i64 x.k,.int .i64 x.m,.int .i64 x.a,.int .i64 x.b,.bool x.g,.string x.nm,.slice none 0 0,.slice x.ka x.kn x.kc,.int .i64 y.k,.int .i64 y.m,.int .i64 y.a,.int .i64 y.b,.bool y.g,.string y.nm,.slice none 0 0,.slice y.ka y.kn y.kc] 26)(hx:Fz P w t (a8 x))(hy:Fz P w u (a8 y))(hP:P q)
  (hi:dQ k∧dQ m∧dQ a∧dQ b)(hn:n.size≤maxLen):Fz P w (.mk k m a b g n [] [t,u]) (a8 ⟨k,m,a,b,g,n,some ⟨q,0,none⟩,2,2⟩):=
 qW (B:=0) (xs:=[x,y]) hi hn rfl ⟨rfl,.inr ⟨q,2,_,rfl,Nat.zero_le _,hq,Nat.le_refl _,by decide,rfl,rfl⟩⟩ ⟨rfl,fun i z v h1 h2=>by
  match i with
  |0=>simp at h1 h2;subst h1 h2;exact hx
  |1=>simp at h1 h2;subst h1 h2;exact hy
  |i+2=>simp at h1⟩ fun y e=>by cases e;exact hP
theorem Rows.inner0{B:Nat}{w w':World}{p0:Option Addr}{p1 p2:Nat}{d:Cl}{Q:List Lr}(h:Rows B w ((.slice p0 p1 p2,d.mem)::Q))(hb:Below w.heap.size w w')(hm:d.mode=0)(g:Bool):Fz (Dd B w' Q) w' (fV d g) (a8 ⟨3,0,0,0,g,⟨#[]⟩,p0,p1,p2⟩):=by
 have hs:Fz (Dd B w Q) w (nd 3 0 0 0 g [] d.mem) (a8 ⟨3,0,0,0,g,⟨#[]⟩,p0,p1,p2⟩):=h.shut ⟨ai _ (by decide),ai _ (by decide),ai _ (by decide),ai _ (by decide)⟩ (by decide) h.len.1
 unfold fV
 rw[if_pos hm]
 exact hs.nu (NU.of_below hb)
theorem Rows.inner2{B:Nat}{w w':World}{p0:Option Addr}{p1 p2 q:Nat}{d:Cl}{x:Nv}{Q:List Lr}(h:Rows B w ((.slice p0 p1 p2,d.mem)::Q))(hb:Below w.heap.size w w')(hBw:B≤w.heap.size)(hm:d.mode≠0)(hi:dQ d.mode)(hl:Fz (Dd B w ((.slice p0 p1 p2,d.mem)::Q)) w d.left (a8 x))
  (hq:Bk w' q #[.int .i64 x.k,.int .i64 x.m,.int .i64 x.a,.int .i64 x.b,.bool x.g,.string x.nm,.slice none 0 0,.slice x.ka x.kn x.kc,.int .i64 3,.int .i64 0,.int .i64 0,.int .i64 0,.bool false,.string ⟨#[]⟩,.slice none 0 0,.slice p0 p1 p2] 26)(hqw:w.heap.size≤q)(g:Bool):Fz (Dd B w' Q) w' (fV d g) (a8 ⟨3,d.mode,0,0,g,⟨#[]⟩,some ⟨q,0,none⟩,2,2⟩):=by
 have hs:Fz (Dd B w Q) w (nd 3 0 0 0 false [] d.mem) (a8 ⟨3,0,0,0,false,⟨#[]⟩,p0,p1,p2⟩):=h.shut ⟨ai _ (by decide),ai _ (by decide),ai _ (by decide),ai _ (by decide)⟩ (by decide) h.len.1
 unfold fV
 rw[if_neg hm]
 refine fz_two hq ((hl.mono fun k hk=>jk k hk).nu (NU.of_below hb)) (hs.nu (NU.of_below hb)) ⟨⟨⟨_,_,hq⟩,Nat.le_trans hBw hqw⟩,fun r hr e=>?_⟩ ⟨ai _ (by decide),hi,ai _ (by decide),ai _ (by decide)⟩ (by decide)
 obtain⟨ys,h1,_⟩:=h.each r (by simp[hr])
 have:=(h1.lt q e).2
 omega
theorem vL{B:Nat}{w:World}{cg co:Nat}{c:Kv}{d:Cl}{Q:List Lr}(hc:∀j u,(c11 c)[j]?=some u→w.cell? ⟨cg,co+j,none⟩=some u)(hBw:B≤w.heap.size)(h2:d.mode=c.mode)(hi:dQ c.mode)
  (h3:Fz (Dd B w ((.slice c.mem.1 c.mem.2.1 c.mem.2.2,d.mem)::Q)) w d.left (a8 c.left))(h:Rows B w ((.slice c.mem.1 c.mem.2.1 c.mem.2.2,d.mem)::Q)):
  Calls Tryz.prog 108 #[.pointer (some ⟨cg,co,none⟩)] w fun e w'=>∃y:Nv,e=.returned (a8 y)∧y.g=false∧Below w.heap.size w w'∧∀g,Fz (Dd B w' Q) w' (fV d g) (a8 {y with g:=g}):=by
 have x1:=hc 1 _ rfl
 have x2:=hc 2 _ rfl
 have x3:=hc 3 _ rfl
 have x4:=hc 4 _ rfl
 have x5:=hc 5 _ rfl
 have x6:=hc 6 _ rfl
 have x7:=hc 7 _ rfl
 have x8:=hc 8 _ rfl
 have x9:=hc 9 _ rfl
 have EX:=hc 10 _ rfl
 have hcl:=World.block_lt_of_cell? w _ x1
 simp only[]at hcl
 obtain⟨cn,md,⟨lk,lm,la,lb,lg,ln,ka,kn,kc⟩,⟨p0,p1,p2⟩⟩:=c
 simp only at x1 x2 x3 x4 x5 x6 x7 x8 x9 EX h2 hi h3 h
 have HI0:Hid (d.mode=0→∀w',Below w.heap.size w w'→∀g,Fz (Dd B w' Q) w' (fV d g) (a8 ⟨3,0,0,0,g,⟨#[]⟩,p0,p1,p2⟩)):=fun hm w' hb g=>h.inner0 hb hm g
 have HI2:Hid (d.mode≠0→∀w' q,Below w.heap.size w w'→Bk w' q #[.int .i64 lk,.int .i64 lm,.int .i64 la,.int .i64 lb,.bool lg,.string ln,.slice none 0 0,.slice ka kn kc,.int .i64 3,.int .i64 0,.int .i64 0,.int .i64 0,.bool false,.string ⟨#[]⟩,.slice none 0 0,.slice p0 p1 p2] 26→w.heap.size≤q→∀g,Fz (Dd B w' Q) w' (fV d g) (a8 ⟨3,d.mode,0,0,g,⟨#[]⟩,some ⟨q,0,none⟩,2,2⟩)):=fun hm w' q hb hq hqw g=>h.inner2 hb hBw hm (h2▸hi) h3 hq hqw g
 have HH2:Hid (d.mode=md):=h2
 have B2:Below w.heap.size w ((w.alloc (.cells #[.int .i64 0,.int .i64 0,.int .i64 0,.int .i64 0,.bool false,.string ⟨#[]⟩,.slice none 0 0,.slice none 0 0] 26)).alloc (.cells #[.int .i64 3,.int .i64 0,.int .i64 0,.int .i64 0,.bool false,.string ⟨#[]⟩,.slice none 0 0,.slice p0 p1 p2] 26)):=bP _ _ _
 have RB:Bk ((w.alloc (.cells #[.int .i64 0,.int .i64 0,.int .i64 0,.int .i64 0,.bool false,.string ⟨#[]⟩,.slice none 0 0,.slice none 0 0] 26)).alloc (.cells #[.int .i64 3,.int .i64 0,.int .i64 0,.int .i64 0,.bool false,.string ⟨#[]⟩,.slice none 0 0,.slice p0 p1 p2] 26)) w.heap.size #[.int .i64 0,.int .i64 0,.int .i64 0,.int .i64 0,.bool false,.string ⟨#[]⟩,.slice none 0 0,.slice none 0 0] 26:=(Bk.new w _ _).past _
 have LB:Bk ((w.alloc (.cells #[.int .i64 0,.int .i64 0,.int .i64 0,.int .i64 0,.bool false,.string ⟨#[]⟩,.slice none 0 0,.slice none 0 0] 26)).alloc (.cells #[.int .i64 3,.int .i64 0,.int .i64 0,.int .i64 0,.bool false,.string ⟨#[]⟩,.slice none 0 0,.slice p0 p1 p2] 26)) (w.heap.size+1) #[.int .i64 3,.int .i64 0,.int .i64 0,.int .i64 0,.bool false,.string ⟨#[]⟩,.slice none 0 0,.slice p0 p1 p2] 26:=bk2
 obtain⟨w2,hw2⟩:∃w2,((w.alloc (.cells #[.int .i64 0,.int .i64 0,.int .i64 0,.int .i64 0,.bool false,.string ⟨#[]⟩,.slice none 0 0,.slice none 0 0] 26)).alloc (.cells #[.int .i64 3,.int .i64 0,.int .i64 0,.int .i64 0,.bool false,.string ⟨#[]⟩,.slice none 0 0,.slice p0 p1 p2] 26))=w2:=⟨_,rfl⟩
 have HW2:=hd24 hw2
 have hz2:w2.heap.size=w.heap.size+2:=by rw[←hw2];simp
 rw[hw2]at B2 RB LB
 have x1:=(B2.cell (p:=⟨cg,co+1,none⟩) hcl).trans x1
 have x2:=(B2.cell (p:=⟨cg,co+2,none⟩) hcl).trans x2
 have x3:=(B2.cell (p:=⟨cg,co+3,none⟩) hcl).trans x3
 have x4:=(B2.cell (p:=⟨cg,co+4,none⟩) hcl).trans x4
 have x5:=(B2.cell (p:=⟨cg,co+5,none⟩) hcl).trans x5
 have x6:=(B2.cell (p:=⟨cg,co+6,none⟩) hcl).trans x6
 have x7:=(B2.cell (p:=⟨cg,co+7,none⟩) hcl).trans x7
 have x8:=(B2.cell (p:=⟨cg,co+8,none⟩) hcl).trans x8
 have x9:=(B2.cell (p:=⟨cg,co+9,none⟩) hcl).trans x9
 have EX:=(B2.cell (p:=⟨cg,co+10,none⟩) hcl).trans EX
 have z0:=RB.cell 0 rfl
 have z1:=RB.cell 1 rfl
 have z2:=RB.cell 2 rfl
 have z3:=RB.cell 3 rfl
 have z4:=RB.cell 4 rfl
 have z5:=RB.cell 5 rfl
 have z6:=RB.cell 6 rfl
 have z7:=RB.cell 7 rfl
 have f0:=RB.frozen 0
 have f1:=RB.frozen 1
 have f2:=RB.frozen 2
 have f3:=RB.frozen 3
 have f4:=RB.frozen 4
 have f5:=RB.frozen 5
 have f6:=RB.frozen 6
 have f7:=RB.frozen 7
 have r0:=LB.cell 0 rfl
 have r1:=LB.cell 1 rfl
 have r2:=LB.cell 2 rfl
 have r3:=LB.cell 3 rfl
 have r4:=LB.cell 4 rfl
 have r5:=LB.cell 5 rfl
 have r6:=LB.cell 6 rfl
 have r7:=LB.cell 7 rfl
 have HB2:Hid (Below w.heap.size w w2):=B2
 have EL:=hd24 RB
 clear h h3 hi h2 hw2 B2 RB LB hc
 go_enter Tryz.func108,Tryz.ntmps108
 go_upto_region 2 with fail
 rw[HW2.out]
 by_cases hm:md=0
 ·subst hm
  have ql:Hid (Below w.heap.size w (aC w2 w.heap.size 0 ⟨3,0,0,0,false,⟨#[]⟩,p0,p1,p2⟩)∧∀g,Fz (Dd B (aC w2 w.heap.size 0 ⟨3,0,0,0,false,⟨#[]⟩,p0,p1,p2⟩) Q) (aC w2 w.heap.size 0 ⟨3,0,0,0,false,⟨#[]⟩,p0,p1,p2⟩) (fV d g) (a8 ⟨3,0,0,0,g,⟨#[]⟩,p0,p1,p2⟩)):=⟨fI _ HB2.out (Nat.le_refl _),HI0.out HH2.out _ (fI _ HB2.out (Nat.le_refl _))⟩
  have kM:Hid (∀tm,_→_):=fun tm h=>yX (p:=2) Tryz.results108 tm w2 w.heap.size ⟨3,0,0,0,false,⟨#[]⟩,p0,p1,p2⟩ h EL.out
  clear HI0 HI2 EL HB2 HW2
  go_wp2
  change bodyPost _ _ _ _ _ (aC w2 w.heap.size 0 ⟨3,0,0,0,false,⟨#[]⟩,p0,p1,p2⟩)
  generalize aC w2 w.heap.size 0 ⟨3,0,0,0,false,⟨#[]⟩,p0,p1,p2⟩=W4 at*
  exact bodyPost_ret (kM.out _ rfl) rfl ⟨⟨3,0,0,0,false,⟨#[]⟩,p0,p1,p2⟩,rfl,rfl,ql.out.1,ql.out.2⟩
 ·have hm':(md==0)=false:=by simpa using hm
  have HM:Hid (d.mode≠0):=by rw[HH2.out];exact hm
  have B3:Below w2.heap.size w2 (w2.alloc (.cells #[.int .i64 lk,.int .i64 lm,.int .i64 la,.int .i64 lb,.bool lg,.string ln,.slice none 0 0,.slice ka kn kc,.int .i64 3,.int .i64 0,.int .i64 0,.int .i64 0,.bool false,.string ⟨#[]⟩,.slice none 0 0,.slice p0 p1 p2] 26)).drew:=((Below.refl _ w2).alloc (Nat.le_refl _) _).drew
  have Iu:Bk (w2.alloc (.cells #[.int .i64 lk,.int .i64 lm,.int .i64 la,.int .i64 lb,.bool lg,.string ln,.slice none 0 0,.slice ka kn kc,.int .i64 3,.int .i64 0,.int .i64 0,.int .i64 0,.bool false,.string ⟨#[]⟩,.slice none 0 0,.slice p0 p1 p2] 26)).drew w2.heap.size #[.int .i64 lk,.int .i64 lm,.int .i64 la,.int .i64 lb,.bool lg,.string ln,.slice none 0 0,.slice ka kn kc,.int .i64 3,.int .i64 0,.int .i64 0,.int .i64 0,.bool false,.string ⟨#[]⟩,.slice none 0 0,.slice p0 p1 p2] 26:=(Bk.new w2 _ _).on (Below.refl _ _).drew
  have u1:=(B3.cell (p:=⟨cg,co+1,none⟩) (by show cg<w2.heap.size;omega)).trans x1
  have u2:=(B3.cell (p:=⟨cg,co+2,none⟩) (by show cg<w2.heap.size;omega)).trans x2
  have u3:=(B3.cell (p:=⟨cg,co+3,none⟩) (by show cg<w2.heap.size;omega)).trans x3
  have u4:=(B3.cell (p:=⟨cg,co+4,none⟩) (by show cg<w2.heap.size;omega)).trans x4
  have u5:=(B3.cell (p:=⟨cg,co+5,none⟩) (by show cg<w2.heap.size;omega)).trans x5
  have u6:=(B3.cell (p:=⟨cg,co+6,none⟩) (by show cg<w2.heap.size;omega)).trans x6
  have u7:=(B3.cell (p:=⟨cg,co+7,none⟩) (by show cg<w2.heap.size;omega)).trans x7
  have u8:=(B3.cell (p:=⟨cg,co+8,none⟩) (by show cg<w2.heap.size;omega)).trans x8
  have u9:=(B3.cell (p:=⟨cg,co+9,none⟩) (by show cg<w2.heap.size;omega)).trans x9
  have q0:=(B3.cell (p:=⟨w.heap.size+1,0,none⟩) (by show w.heap.size+1<w2.heap.size;omega)).trans r0
  have q1:=(B3.cell (p:=⟨w.heap.size+1,1,none⟩) (by show w.heap.size+1<w2.heap.size;omega)).trans r1
  have q2:=(B3.cell (p:=⟨w.heap.size+1,2,none⟩) (by show w.heap.size+1<w2.heap.size;omega)).trans r2
  have q3:=(B3.cell (p:=⟨w.heap.size+1,3,none⟩) (by show w.heap.size+1<w2.heap.size;omega)).trans r3
  have q4:=(B3.cell (p:=⟨w.heap.size+1,4,none⟩) (by show w.heap.size+1<w2.heap.size;omega)).trans r4
  have q5:=(B3.cell (p:=⟨w.heap.size+1,5,none⟩) (by show w.heap.size+1<w2.heap.size;omega)).trans r5
  have q6:=(B3.cell (p:=⟨w.heap.size+1,6,none⟩) (by show w.heap.size+1<w2.heap.size;omega)).trans r6
  have q7:=(B3.cell (p:=⟨w.heap.size+1,7,none⟩) (by show w.heap.size+1<w2.heap.size;omega)).trans r7
  have y0:=(B3.cell (p:=⟨w.heap.size,0,none⟩) (by show w.heap.size<w2.heap.size;omega)).trans z0
  have y1:=(B3.cell (p:=⟨w.heap.size,1,none⟩) (by show w.heap.size<w2.heap.size;omega)).trans z1
  have y2:=(B3.cell (p:=⟨w.heap.size,2,none⟩) (by show w.heap.size<w2.heap.size;omega)).trans z2
  have y3:=(B3.cell (p:=⟨w.heap.size,3,none⟩) (by show w.heap.size<w2.heap.size;omega)).trans z3
  have y4:=(B3.cell (p:=⟨w.heap.size,4,none⟩) (by show w.heap.size<w2.heap.size;omega)).trans z4
  have y5:=(B3.cell (p:=⟨w.heap.size,5,none⟩) (by show w.heap.size<w2.heap.size;omega)).trans z5
  have y6:=(B3.cell (p:=⟨w.heap.size,6,none⟩) (by show w.heap.size<w2.heap.size;omega)).trans z6
  have y7:=(B3.cell (p:=⟨w.heap.size,7,none⟩) (by show w.heap.size<w2.heap.size;omega)).trans z7
  have v0:=(World.frozen?_of_block (a:=⟨w.heap.size,0,none⟩) (B3.block w.heap.size (by omega))).trans f0
  have v1:=(World.frozen?_of_block (a:=⟨w.heap.size,1,none⟩) (B3.block w.heap.size (by omega))).trans f1
  have v2:=(World.frozen?_of_block (a:=⟨w.heap.size,2,none⟩) (B3.block w.heap.size (by omega))).trans f2
  have v3:=(World.frozen?_of_block (a:=⟨w.heap.size,3,none⟩) (B3.block w.heap.size (by omega))).trans f3
  have v4:=(World.frozen?_of_block (a:=⟨w.heap.size,4,none⟩) (B3.block w.heap.size (by omega))).trans f4
  have v5:=(World.frozen?_of_block (a:=⟨w.heap.size,5,none⟩) (B3.block w.heap.size (by omega))).trans f5
  have v6:=(World.frozen?_of_block (a:=⟨w.heap.size,6,none⟩) (B3.block w.heap.size (by omega))).trans f6
  have v7:=(World.frozen?_of_block (a:=⟨w.heap.size,7,none⟩) (B3.block w.heap.size (by omega))).trans f7
  have HB3:Hid (Below w.heap.size w (w2.alloc (.cells #[.int .i64 lk,.int .i64 lm,.int .i64 la,.int .i64 lb,.bool lg,.string ln,.slice none 0 0,.slice ka kn kc,.int .i64 3,.int .i64 0,.int .i64 0,.int .i64 0,.bool false,.string ⟨#[]⟩,.slice none 0 0,.slice p0 p1 p2] 26)).drew):=HB2.out.trans (ae B3 (by omega))
  have xV:=hd24 (EL.out.on B3)
  have HKB3:Hid (Bk (w2.alloc (.cells #[.int .i64 lk,.int .i64 lm,.int .i64 la,.int .i64 lb,.bool lg,.string ln,.slice none 0 0,.slice ka kn kc,.int .i64 3,.int .i64 0,.int .i64 0,.int .i64 0,.bool false,.string ⟨#[]⟩,.slice none 0 0,.slice p0 p1 p2] 26)).drew (w.heap.size+2) #[.int .i64 lk,.int .i64 lm,.int .i64 la,.int .i64 lb,.bool lg,.string ln,.slice none 0 0,.slice ka kn kc,.int .i64 3,.int .i64 0,.int .i64 0,.int .i64 0,.bool false,.string ⟨#[]⟩,.slice none 0 0,.slice p0 p1 p2] 26):=hz2▸Iu
  clear B3 Iu hm EL HB2 HW2 HI0
  go_upto_region 4 with fail
  refine UK.begin 11 (fun w'=>w'.cell? ⟨cg,co+1,none⟩=some (.int .i64 md)∧w'.cell? ⟨cg,co+2,none⟩=some (.int .i64 lk)∧w'.cell? ⟨cg,co+3,none⟩=some (.int .i64 lm)∧w'.cell? ⟨cg,co+4,none⟩=some (.int .i64 la)∧w'.cell? ⟨cg,co+5,none⟩=some (.int .i64 lb)∧w'.cell? ⟨cg,co+6,none⟩=some (.bool lg)∧w'.cell? ⟨cg,co+7,none⟩=some (.string ln)∧w'.cell? ⟨cg,co+8,none⟩=some (.slice none 0 0)∧w'.cell? ⟨cg,co+9,none⟩=some (.slice ka kn kc)∧w'.cell? ⟨w.heap.size+1,0,none⟩=some (.int .i64 3)∧w'.cell? ⟨w.heap.size+1,1,none⟩=some (.int .i64 0)∧w'.cell? ⟨w.heap.size+1,2,none⟩=some (.int .i64 0)∧w'.cell? ⟨w.heap.size+1,3,none⟩=some (.int .i64 0)∧w'.cell? ⟨w.heap.size+1,4,none⟩=some (.bool false)∧w'.cell? ⟨w.heap.size+1,5,none⟩=some (.string ⟨#[]⟩)∧w'.cell? ⟨w.heap.size+1,6,none⟩=some (.slice none 0 0)∧w'.cell? ⟨w.heap.size+1,7,none⟩=some (.slice p0 p1 p2)) (by kernel_rfl) ⟨x1,x2,x3,x4,x5,x6,x7,x8,x9,r0,r1,r2,r3,r4,r5,r6,r7⟩ (fun hHeld=>?_)
  iterate 9
   refine UK.take (v:=?_) rfl (by kernel_rfl) (fun _ _ _ h=>h) (by rfl) ?_ (by assumption) ?_
   rotate_left
   ·(intro w' hSw;(try dsimp only at hSw);go_simp;try with_reducible rfl)
   try simp only[Act.put,lin.sm]
  refine UK.one (by kernel_rfl) rfl (fun K hK=>?_)
  go_simp
  refine hK.out _ _ ?_ (fun hHeld=>?_)
  ·exact⟨u1,u2,u3,u4,u5,u6,u7,u8,u9,q0,q1,q2,q3,q4,q5,q6,q7⟩
  clear hK K
  try simp only[Act.put,lin.sm]
  refine UK.take (v:=?_) rfl (by kernel_rfl) (fun _ _ _ h=>h) (by rfl) ?_ (by assumption) ?_
  rotate_left
  ·(intro w' hSw;(try dsimp only at hSw);go_simp;try with_reducible rfl)
  try simp only[Act.put,lin.sm]
  generalize hw5:(w2.alloc (.cells #[.int .i64 lk,.int .i64 lm,.int .i64 la,.int .i64 lb,.bool lg,.string ln,.slice none 0 0,.slice ka kn kc,.int .i64 3,.int .i64 0,.int .i64 0,.int .i64 0,.bool false,.string ⟨#[]⟩,.slice none 0 0,.slice p0 p1 p2] 26)).drew=w5 at*
  clear hw5
  refine UK.last (by kernel_rfl) rfl (fun K hK=>?_)
  go_simp
  refine hK.out _ (aC w5 w.heap.size 0 ⟨3,md,0,0,false,⟨#[]⟩,some ⟨w.heap.size+2,0,none⟩,2,2⟩) ?_
  clear hK K
  try simp only[Act.put,lin.sm]
  have hHeld:=True.intro
  refine lin.UH.fin (by kernel_rfl) ?_
  have ql:Hid (Below w.heap.size w (aC w5 w.heap.size 0 ⟨3,md,0,0,false,⟨#[]⟩,some ⟨w.heap.size+2,0,none⟩,2,2⟩)∧∀g,Fz (Dd B (aC w5 w.heap.size 0 ⟨3,md,0,0,false,⟨#[]⟩,some ⟨w.heap.size+2,0,none⟩,2,2⟩) Q) (aC w5 w.heap.size 0 ⟨3,md,0,0,false,⟨#[]⟩,some ⟨w.heap.size+2,0,none⟩,2,2⟩) (fV d g) (a8 ⟨3,md,0,0,g,⟨#[]⟩,some ⟨w.heap.size+2,0,none⟩,2,2⟩)):=by
   have hb:=fI (o:=0) ⟨3,md,0,0,false,⟨#[]⟩,some ⟨w.heap.size+2,0,none⟩,2,2⟩ HB3.out (Nat.le_refl w.heap.size)
   refine⟨hb,?_⟩
   have:=HI2.out HM.out _ (w.heap.size+2) hb ((((bX w5 w.heap.size 0 ⟨3,md,0,0,false,⟨#[]⟩,some ⟨w.heap.size+2,0,none⟩,2,2⟩).block (w.heap.size+2) HKB3.out.lt (fun e=>by have:=Option.some.inj e;omega))).trans HKB3.out) (by omega)
   rw[HH2.out]at this
   exact this
  have kM:Hid (∀tm,_→_):=fun tm h=>yX (p:=2) Tryz.results108 tm w5 w.heap.size ⟨3,md,0,0,false,⟨#[]⟩,some ⟨w.heap.size+2,0,none⟩,2,2⟩ h xV.out
  clear HI2 xV HB3 HKB3 hHeld y0 v0 y1 v1 y2 v2 y3 v3 y4 v4 y5 v5 y6 v6 y7 v7
  generalize aC w5 w.heap.size 0 ⟨3,md,0,0,false,⟨#[]⟩,some ⟨w.heap.size+2,0,none⟩,2,2⟩=W4 at*
  go_wp2
  exact bodyPost_ret (kM.out _ rfl) rfl ⟨⟨3,md,0,0,false,⟨#[]⟩,some ⟨w.heap.size+2,0,none⟩,2,2⟩,rfl,rfl,ql.out.1,ql.out.2⟩
end Go.Proofs.YtgbkolonhddolaaGreatDoor.prs
namespace Go.Proofs.YtgbkolonhddolaaGreatDoor.prs
open Go.RowKit nod tok
open rng(R RV info_parts)
open lin(BA)
/--A block of a node made since is kept out of what the trees read. -/
theorem Rows.fake{B:Nat}{w w':World}{rs:List Lr}{q:Nat}{u0 u1 u2 u3 u4 u5 u6 u7:Value}(h:Rows B w rs)(hB:B≤w.heap.size)(hb:Below w.heap.size w w')(hq:Bk w' q #[u0,u1,u2,u3,u4,u5,u6,u7] 26)(hqw:w.heap.size≤q):
  Rows B w' ((.slice (some ⟨q,0,none⟩) 0 1,[])::rs)∧∀t u,Fz (Dd B w rs) w t u→Fz (Dd B w' ((.slice (some ⟨q,0,none⟩) 0 1,[])::rs)) w' t u:=by
 have hfz:∀t u,Fz (Dd B w rs) w t u→Fz (Dd B w' ((.slice (some ⟨q,0,none⟩) 0 1,[])::rs)) w' t u:=fun t u f=>f.dd (x:=none) (NU.of_below hb) (fun k e=>by cases e) fun k hk r hr=>by
  rcases List.mem_cons.1 hr with rfl|hr
  ·intro e
   have:=hk.1.lt
   have e:q=k:=Option.some.inj e
   omega
  ·exact hk.2 r hr
 refine⟨⟨fun r hr=>?_,List.pairwise_cons.2 ⟨fun r hr=>.inr fun e=>?_,h.apart⟩⟩,hfz⟩
 ·rcases List.mem_cons.1 hr with rfl|hr
  ·exact⟨[],⟨rfl,.inr ⟨q,1,_,rfl,by omega,hq,Nat.zero_le _,by decide,rfl,rfl⟩⟩,RN.nil _ _⟩
  ·obtain⟨xs,h1,h2⟩:=h.each r hr
   exact⟨xs,rng.own_below' h1 hb,h2.imp fun t v f=>hfz t v f⟩
 ·obtain⟨xs,h1,_⟩:=h.each r hr
  have:=(h1.lt q e.symm).2
  omega
/--That block is written, and let go. -/
theorem Fz.o5{B:Nat}{w w':World}{rs:List Lr}{q:Nat}{t:Nd}{u:Value}(h:Fz (Dd B w ((.slice (some ⟨q,0,none⟩) 0 1,[])::rs)) w t u)(hg:w.grownBy w' (some q)):Fz (Dd B w' rs) w' t u:=
 h.dd (NU.aF hg) (fun k e hk=>hk.2 (.slice (some ⟨q,0,none⟩) 0 1,[]) (by simp) (by cases e;rfl)) fun k hk r hr=>hk.2 r (by simp[hr])
theorem Gl{B:Nat}{w:World}{cg co:Nat}{c:Kv}{d:Cl}{Q:List Lr}(hc:∀j u,(c11 c)[j]?=some u→w.cell? ⟨cg,co+j,none⟩=some u)(h1:d.neg=c.neg)(h2:d.mode=c.mode)(hi:dQ c.mode)(hB:B≤w.heap.size)
  (h3:Fz (Dd B w ((.slice c.mem.1 c.mem.2.1 c.mem.2.2,d.mem)::Q)) w d.left (a8 c.left))(h:Rows B w ((.slice c.mem.1 c.mem.2.1 c.mem.2.2,d.mem)::Q)):
  Calls Tryz.prog 107 #[.pointer (some ⟨cg,co,none⟩)] w fun e w'=>∃y:Nv,e=.returned (a8 y)∧Below w.heap.size w w'∧Fz (Dd B w' Q) w' d.node (a8 y):=by
 have x0:=hc 0 _ rfl
 simp only[Nat.add_zero]at x0
 have hcl:=World.block_lt_of_cell? w _ x0
 simp only[]at hcl
 have B1:Below w.heap.size w (w.alloc (.cells #[.int .i64 0,.int .i64 0,.int .i64 0,.int .i64 0,.bool false,.string ⟨#[]⟩,.slice none 0 0,.slice none 0 0] 26)):=(Below.refl _ w).alloc (Nat.le_refl _) _
 have RB1:Bk (w.alloc (.cells #[.int .i64 0,.int .i64 0,.int .i64 0,.int .i64 0,.bool false,.string ⟨#[]⟩,.slice none 0 0,.slice none 0 0] 26)) w.heap.size #[.int .i64 0,.int .i64 0,.int .i64 0,.int .i64 0,.bool false,.string ⟨#[]⟩,.slice none 0 0,.slice none 0 0] 26:=Bk.new w _ _
 obtain⟨w1,hw1⟩:∃w1,w.alloc (.cells #[.int .i64 0,.int .i64 0,.int .i64 0,.int .i64 0,.bool false,.string ⟨#[]⟩,.slice none 0 0,.slice none 0 0] 26)=w1:=⟨_,rfl⟩
 have HW1:=hd24 hw1
 rw[hw1]at B1 RB1
 have hz1:w1.heap.size=w.heap.size+1:=by rw[←hw1];simp
 obtain⟨hR1,hf1⟩:=h.fake hB B1 RB1 (Nat.le_refl _)
 have hsw:((.slice (some ⟨w.heap.size,0,none⟩) 0 1,[])::(.slice c.mem.1 c.mem.2.1 c.mem.2.2,d.mem)::Q:List Lr).Perm ((.slice c.mem.1 c.mem.2.1 c.mem.2.2,d.mem)::(.slice (some ⟨w.heap.size,0,none⟩) 0 1,[])::Q):=List.Perm.swap _ _ _
 have CI:=vL (B:=B) (w:=w1) (cg:=cg) (co:=co) (c:=c) (d:=d) (Q:=(.slice (some ⟨w.heap.size,0,none⟩) 0 1,[])::Q) (fun j u hu=>(B1.cell (p:=⟨cg,co+j,none⟩) hcl).trans (hc j u hu)) (Nat.le_trans hB B1.size) h2 hi ((hf1 _ _ h3).mono fun k hk=>gu hsw k hk) (hR1.perm hsw)
 have HND:Hid (fV d c.neg=d.node):=by unfold Hid;rw[←h1];exact zK d
 have HB1:Hid (Below w.heap.size w w1):=B1
 have HR1:=hd24 RB1
 have HX0:=hd24 x0
 obtain⟨ng,hng⟩:∃ng,c.neg=ng:=⟨_,rfl⟩
 rw[hng]at HND HX0
 clear h h3 hi h2 h1 hc hR1 hf1 B1 RB1 hw1 x0 hng hsw
 go_enter Tryz.func107,Tryz.ntmps107
 go_upto_region 1 with fail
 rw[HW1.out]
 go_wp2_with fail
 refine CI.mono ?_
 rintro e w2⟨⟨yk,ym,ya,yb,yg,yn,fB,fw,fA⟩,rfl,hyg,hb2,hfz⟩
 obtain rfl:yg=false:=hyg
 simp only[a8]
 have B2:Below w.heap.size w w2:=HB1.out.trans (ae hb2 (by omega))
 have RB2:=HR1.out.on hb2
 have hs2:=hb2.size
 have B3:Below w2.heap.size w2 (w2.alloc (.cells #[.int .i64 yk,.int .i64 ym,.int .i64 ya,.int .i64 yb,.bool false,.string yn,.slice none 0 0,.slice fB fw fA] 26)):=(Below.refl _ w2).alloc (Nat.le_refl _) _
 have Iu:Bk (w2.alloc (.cells #[.int .i64 yk,.int .i64 ym,.int .i64 ya,.int .i64 yb,.bool false,.string yn,.slice none 0 0,.slice fB fw fA] 26)) w2.heap.size #[.int .i64 yk,.int .i64 ym,.int .i64 ya,.int .i64 yb,.bool false,.string yn,.slice none 0 0,.slice fB fw fA] 26:=Bk.new w2 _ _
 have rq:=RB2.on B3
 have x0:=(B3.cell (p:=⟨cg,co,none⟩) (by show cg<w2.heap.size;omega)).trans ((B2.cell (p:=⟨cg,co,none⟩) hcl).trans HX0.out)
 have hfz3:=fun g=>(hfz g).nu (NU.of_below B3)
 obtain⟨w3,hw3⟩:∃w3,w2.alloc (.cells #[.int .i64 yk,.int .i64 ym,.int .i64 ya,.int .i64 yb,.bool false,.string yn,.slice none 0 0,.slice fB fw fA] 26)=w3:=⟨_,rfl⟩
 have HW3:=hd24 hw3
 have hz3:w3.heap.size=w2.heap.size+1:=by rw[←hw3];simp
 rw[hw3]at B3 Iu rq x0 hfz3
 obtain⟨q,hq⟩:∃q,w2.heap.size=q:=⟨_,rfl⟩
 rw[hq]at Iu hz3 hs2
 have HQ:Hid (w2.heap.size=q):=hq
 have KB4:Bk (w3.setCell ⟨q,4,none⟩ (.bool ng)) q #[.int .i64 yk,.int .i64 ym,.int .i64 ya,.int .i64 yb,.bool ng,.string yn,.slice none 0 0,.slice fB fw fA] 26:=by have:=Iu.set 4 (.bool ng);simpa using this
 have AP:Bk (w3.setCell ⟨q,4,none⟩ (.bool ng)) w.heap.size #[.int .i64 0,.int .i64 0,.int .i64 0,.int .i64 0,.bool false,.string ⟨#[]⟩,.slice none 0 0,.slice none 0 0] 26:=rq.apart (by omega) _
 have B4:Below w.heap.size w (w3.setCell ⟨q,4,none⟩ (.bool ng)):=(B2.trans (ae B3 (by omega))).setCell (by show w.heap.size≤q;omega) _
 have ql:Hid (Below w.heap.size w (aC (w3.setCell ⟨q,4,none⟩ (.bool ng)) w.heap.size 0 ⟨yk,ym,ya,yb,ng,yn,fB,fw,fA⟩)∧Fz (Dd B (aC (w3.setCell ⟨q,4,none⟩ (.bool ng)) w.heap.size 0 ⟨yk,ym,ya,yb,ng,yn,fB,fw,fA⟩) Q) (aC (w3.setCell ⟨q,4,none⟩ (.bool ng)) w.heap.size 0 ⟨yk,ym,ya,yb,ng,yn,fB,fw,fA⟩) d.node (a8 ⟨yk,ym,ya,yb,ng,yn,fB,fw,fA⟩)):=by
  refine⟨fI _ B4 (Nat.le_refl _),?_⟩
  rw[←HND.out]
  have hq2:w2.grownBy (w3.setCell ⟨q,4,none⟩ (.bool ng)) none:=⟨B3.os,B3.tape,B3.output,by show w2.heap.size≤(w3.setCell ⟨q,4,none⟩ (.bool ng)).heap.size;simp;omega,fun k hk _=>(Below.heap_setCell _ _ _ _ (by simp only;omega)).trans (B3.block k hk)⟩
  exact((hfz ng).nu (NU.aF hq2)).o5 (bX _ _ _ _)
 have kM:Hid (∀tm,_→_):=fun tm h=>yX (p:=2) Tryz.results107 tm (w3.setCell ⟨q,4,none⟩ (.bool ng)) w.heap.size ⟨yk,ym,ya,yb,ng,yn,fB,fw,fA⟩ h AP
 have g0:=Iu.cell 4 rfl
 have g1:=Iu.frozen 4
 have k0:=KB4.cell 0 rfl
 have k1:=KB4.cell 1 rfl
 have k2:=KB4.cell 2 rfl
 have k3:=KB4.cell 3 rfl
 have k4:=KB4.cell 4 rfl
 have k5:=KB4.cell 5 rfl
 have k6:=KB4.cell 6 rfl
 have k7:=KB4.cell 7 rfl
 have z0:=AP.cell 0 rfl
 have z1:=AP.cell 1 rfl
 have z2:=AP.cell 2 rfl
 have z3:=AP.cell 3 rfl
 have z4:=AP.cell 4 rfl
 have z5:=AP.cell 5 rfl
 have z6:=AP.cell 6 rfl
 have z7:=AP.cell 7 rfl
 have f0:=AP.frozen 0
 have f1:=AP.frozen 1
 have f2:=AP.frozen 2
 have f3:=AP.frozen 3
 have f4:=AP.frozen 4
 have f5:=AP.frozen 5
 have f6:=AP.frozen 6
 have f7:=AP.frozen 7
 have hne:¬q=w.heap.size:=by omega
 have hne2:¬w.heap.size=q:=by omega
 clear B2 RB2 B3 Iu rq hfz3 hfz hw3 hq B4 hb2 CI
 go_upto_region 2 with fail
 rw[HQ.out,HW3.out]
 clear hz3 hz1 hs2
 go_upto_region 3 with fail
 generalize w3.setCell ⟨q,4,none⟩ (.bool ng)=w4 at*
 go_wp2
 change bodyPost _ _ _ _ _ (aC w4 w.heap.size 0 ⟨yk,ym,ya,yb,ng,yn,fB,fw,fA⟩)
 generalize aC w4 w.heap.size 0 ⟨yk,ym,ya,yb,ng,yn,fB,fw,fA⟩=W5 at*
 exact bodyPost_ret (kM.out _ rfl) rfl ⟨⟨yk,ym,ya,yb,ng,yn,fB,fw,fA⟩,rfl,ql.out.1,ql.out.2⟩
end Go.Proofs.YtgbkolonhddolaaGreatDoor.prs
namespace Go.Proofs.YtgbkolonhddolaaGreatDoor.prs
open Go.RowKit nod tok
open rng(R RV info_parts)
open lin(BA)
variable[gh:Gh]
/--A class's cells, stored. -/
def nZ(w:World)(g o:Nat)(n:Bool)(m:Int)(y:Nv):World:=(((((((((((w.setCell ⟨g,o,none⟩ (.bool n)).setCell ⟨g,o+1,none⟩ (.int .i64 m)).setCell ⟨g,o+2,none⟩ (.int .i64 y.k)).setCell ⟨g,o+3,none⟩ (.int .i64 y.m)).setCell ⟨g,o+4,none⟩ (.int .i64 y.a)).setCell ⟨g,o+5,none⟩ (.int .i64 y.b)).setCell ⟨g,o+6,none⟩ (.bool y.g)).setCell ⟨g,o+7,none⟩ (.string y.nm)).setCell ⟨g,o+8,none⟩ (.slice none 0 0)).setCell ⟨g,o+9,none⟩ (.slice y.ka y.kn y.kc)).setCell ⟨g,o+10,none⟩ (.slice none 0 0))
theorem Px.FV{B:Nat}{w:World}{pb nx nm bl q cl bv nv}{g cap o:Nat}(h:Px B w pb nx nm bl (q::cl) bv (.slice (some ⟨g,0,none⟩) (cl.length+1) cap) nv)(ho:o=cl.length*11)(n:Bool)(m:Int)(y:Nv):
  Px B (nZ w g o n m y) pb nx nm bl (⟨n,m,y,(none,0,0)⟩::cl) bv (.slice (some ⟨g,0,none⟩) (cl.length+1) cap) nv∧NU none w (nZ w g o n m y):=by
 subst ho
 obtain⟨h0,u0⟩:=h.cO ⟨n,q.mode,⟨q.left.k,q.left.m,q.left.a,q.left.b,q.left.g,q.left.nm,q.left.ka,q.left.kn,q.left.kc⟩,q.mem⟩ 0 (cl.length*11) (.bool n) rfl rfl
 obtain⟨h1,u1⟩:=h0.cO ⟨n,m,⟨q.left.k,q.left.m,q.left.a,q.left.b,q.left.g,q.left.nm,q.left.ka,q.left.kn,q.left.kc⟩,q.mem⟩ 1 (cl.length*11+1) (.int .i64 m) rfl rfl
 obtain⟨h2,u2⟩:=h1.cO ⟨n,m,⟨y.k,q.left.m,q.left.a,q.left.b,q.left.g,q.left.nm,q.left.ka,q.left.kn,q.left.kc⟩,q.mem⟩ 2 (cl.length*11+2) (.int .i64 y.k) rfl rfl
 obtain⟨h3,u3⟩:=h2.cO ⟨n,m,⟨y.k,y.m,q.left.a,q.left.b,q.left.g,q.left.nm,q.left.ka,q.left.kn,q.left.kc⟩,q.mem⟩ 3 (cl.length*11+3) (.int .i64 y.m) rfl rfl
 obtain⟨h4,u4⟩:=h3.cO ⟨n,m,⟨y.k,y.m,y.a,q.left.b,q.left.g,q.left.nm,q.left.ka,q.left.kn,q.left.kc⟩,q.mem⟩ 4 (cl.length*11+4) (.int .i64 y.a) rfl rfl
 obtain⟨h5,u5⟩:=h4.cO ⟨n,m,⟨y.k,y.m,y.a,y.b,q.left.g,q.left.nm,q.left.ka,q.left.kn,q.left.kc⟩,q.mem⟩ 5 (cl.length*11+5) (.int .i64 y.b) rfl rfl
 obtain⟨h6,u6⟩:=h5.cO ⟨n,m,⟨y.k,y.m,y.a,y.b,y.g,q.left.nm,q.left.ka,q.left.kn,q.left.kc⟩,q.mem⟩ 6 (cl.length*11+6) (.bool y.g) rfl rfl
 obtain⟨h7,u7⟩:=h6.cO ⟨n,m,⟨y.k,y.m,y.a,y.b,y.g,y.nm,q.left.ka,q.left.kn,q.left.kc⟩,q.mem⟩ 7 (cl.length*11+7) (.string y.nm) rfl rfl
 obtain⟨h8,u8⟩:=h7.cO ⟨n,m,⟨y.k,y.m,y.a,y.b,y.g,y.nm,q.left.ka,q.left.kn,q.left.kc⟩,q.mem⟩ 8 (cl.length*11+8) (.slice none 0 0) rfl rfl
 obtain⟨h9,u9⟩:=h8.cO ⟨n,m,⟨y.k,y.m,y.a,y.b,y.g,y.nm,y.ka,y.kn,y.kc⟩,q.mem⟩ 9 (cl.length*11+9) (.slice y.ka y.kn y.kc) rfl rfl
 obtain⟨h10,u10⟩:=h9.cO ⟨n,m,⟨y.k,y.m,y.a,y.b,y.g,y.nm,y.ka,y.kn,y.kc⟩,(none,0,0)⟩ 10 (cl.length*11+10) (.slice none 0 0) rfl rfl
 unfold nZ
 exact⟨h10,((((((((((u0.trans u1).trans u2).trans u3).trans u4).trans u5).trans u6).trans u7).trans u8).trans u9).trans u10)⟩
theorem Sx.JN{K B:Nat}{w w2:World}{pb nx bs d cs' nm bl q cl bv nv}{g cap o:Nat}{m:Int}{y:Nv}(h:Sx K B w pb ⟨nx,bs,d::cs',nm⟩ bl (q::cl) bv (.slice (some ⟨g,0,none⟩) (cl.length+1) cap) nv)(ho:o=cl.length*11)(hb:Below w.heap.size w w2)(hi:dQ m)
  (hy:Fz (Dd B w2 (rowsB bl bs++rowsC cl cs')) w2 d.inner (a8 y)):Sx K B (nZ w2 g o q.neg m y) pb ⟨nx,bs,⟨d.neg,m,d.inner,[]⟩::cs',nm⟩ bl (⟨q.neg,m,y,(none,0,0)⟩::cl) bv (.slice (some ⟨g,0,none⟩) (cl.length+1) cap) nv:=by
 have h2:=h.below hb
 obtain⟨hp,hu⟩:=h2.px.FV ho q.neg m y
 have hsw:(rowsOf bl bs (q::cl) (d::cs')).Perm ((.slice q.mem.1 q.mem.2.1 q.mem.2.2,d.mem)::(rowsB bl bs++rowsC cl cs')):=List.perm_middle
 have GR:((.slice none 0 0,[])::(rowsB bl bs++rowsC cl cs'):List Lr).Perm (rowsOf bl bs (⟨q.neg,m,y,(none,0,0)⟩::cl) (⟨d.neg,m,d.inner,[]⟩::cs')):=(List.perm_middle).symm
 have hm:∀k,Dd B w2 (rowsB bl bs++rowsC cl cs') k→Dd B w2 (rowsOf bl bs (⟨q.neg,m,y,(none,0,0)⟩::cl) (⟨d.neg,m,d.inner,[]⟩::cs')) k:=fun k hk=>gu GR k (tq k hk)
 have hm2:∀k,Dd B w2 (rowsOf bl bs (q::cl) (d::cs')) k→Dd B w2 (rowsOf bl bs (⟨q.neg,m,y,(none,0,0)⟩::cl) (⟨d.neg,m,d.inner,[]⟩::cs')) k:=fun k hk=>hm k (jk k (gu hsw k hk))
 refine⟨hp,h2.br,?_,(((h2.rows.perm hsw).tail.Ch).perm GR).nu hu,h2.lb,h2.lc,h2.ln,fun r hr=>?_⟩
 ·have hcx:=h2.cx.imp fun t u f=>(f.mono hm2).nu hu
  cases hcx with
  |cons _ _ _ _ e1 e2 hi' e3 hr=>exact .cons _ _ _ _ e1 rfl hi ((hy.mono hm).nu hu) hr
 ·rcases List.mem_cons.1 (GR.mem_iff.2 hr)with rfl|hr
  ·exact Nat.zero_le _
  ·exact h.lr r (hsw.mem_iff.2 (List.mem_cons_of_mem _ hr))
theorem dh{K B:Nat}{w:World}{pb nx bs d cs' nm bl q cl bv nv}{g cap:Nat}(m:Int)(hi:dQ m)(h:Sx K B w pb ⟨nx,bs,d::cs',nm⟩ bl (q::cl) bv (.slice (some ⟨g,0,none⟩) (cl.length+1) cap) nv):
  Calls Tryz.prog 81 #[.pointer (some ⟨g,cl.length*11,none⟩),.int .i64 m] w fun e w'=>e=.returned (.tuple #[])∧Below B w w'∧∃q',Sx K B w' pb ⟨nx,bs,⟨d.neg,m,d.inner,[]⟩::cs',nm⟩ bl (q'::cl) bv (.slice (some ⟨g,0,none⟩) (cl.length+1) cap) nv:=by
 obtain⟨g',cap',e,hBg,hgl,_,_,hcell,hfro⟩:=h.px.class
 simp only[Value.slice.injEq,Option.some.injEq,Addr.mk.injEq,and_true,true_and]at e
 obtain⟨rfl,rfl⟩:=e
 have HH:Hid (∀{w2 o y},o=cl.length*11→Below w.heap.size w w2→Fz (Dd B w2 (rowsB bl bs++rowsC cl cs')) w2 d.inner (a8 y)→Sx K B (nZ w2 g o q.neg m y) pb ⟨nx,bs,⟨d.neg,m,d.inner,[]⟩::cs',nm⟩ bl (⟨q.neg,m,y,(none,0,0)⟩::cl) bv (.slice (some ⟨g,0,none⟩) (cl.length+1) cap) nv):=fun ho hb hy=>h.JN ho hb hi hy
 have HCF:Hid (∀w2,Below w.heap.size w w2→(∀j u,(c11 q)[j]?=some u→w2.cell? ⟨g,cl.length*11+j,none⟩=some u)∧∀j,w2.frozen? ⟨g,j,none⟩=false):=fun w2 hb=>⟨fun j u hu=>(hb.cell (p:=⟨g,_,none⟩) hgl).trans (hcell j u hu),fun j=>(World.frozen?_of_block (a:=⟨g,j,none⟩) (hb.block g hgl)).trans (hfro j)⟩
 have hsw:(rowsOf bl bs (q::cl) (d::cs')).Perm ((.slice q.mem.1 q.mem.2.1 q.mem.2.2,d.mem)::(rowsB bl bs++rowsC cl cs')):=List.perm_middle
 have hcx:=h.cx
 have CI:Calls Tryz.prog 108 #[.pointer (some ⟨g,cl.length*11,none⟩)] w.drew fun e w'=>∃y:Nv,e=.returned (a8 y)∧Below w.heap.size w w'∧Fz (Dd B w' (rowsB bl bs++rowsC cl cs')) w' d.inner (a8 y):=by
  have hd:Below w.heap.size w w.drew:=(Below.refl _ w).drew
  cases hcx with
  |cons _ _ _ _ e1 e2 hi' e3 hr=>
   exact(vL (B:=B) (fun j u hu=>(HCF.out _ hd).1 j u hu) (Nat.le_trans (Nat.le_trans h.px.pB (Nat.le_of_lt h.px.blk.lt)) hd.size) e2 hi' ((e3.mono fun k hk=>gu hsw k hk).nu (NU.of_below hd)) ((h.rows.perm hsw).nu (NU.of_below hd))).mono fun e w'⟨y,he,_,hb,hf⟩=>⟨y,he,hd.trans hb,by have:=hf false;rw[xx]at this;cases y;rename_i hg;simp only at hg;subst hg;exact this⟩
 have x0:=hcell 0 _ rfl
 have fF:B≤w.heap.size:=by omega
 obtain⟨o,ho⟩:∃o,cl.length*11=o:=⟨_,rfl⟩
 have HO:Hid (cl.length*11=o):=ho
 rw[ho]at x0 CI HCF⊢
 simp only[Nat.add_zero]at x0
 obtain⟨ng,hng⟩:∃ng,q.neg=ng:=⟨_,rfl⟩
 have HNG:Hid (q.neg=ng):=hng
 rw[hng]at x0 HH
 clear h hcell hfro hsw ho hng hcx
 go_enter Tryz.func81,Tryz.ntmps81
 go_upto_region 0 with fail
 refine UK.begin 10 (fun w'=>w'.cell? ⟨g,o,none⟩=some (.bool ng)) (by kernel_rfl) x0 (fun hHeld=>?_)
 iterate 7
  refine UK.take (v:=?_) rfl (by kernel_rfl) (fun _ _ _ h=>h) (by rfl) ?_ (by assumption) ?_
  rotate_left
  ·(intro w' hSw;(try dsimp only at hSw);go_simp;try with_reducible rfl)
  try simp only[Act.put,lin.sm]
 refine UK.one (by kernel_rfl) rfl (fun K hK=>?_)
 go_simp
 refine CI.mono ?_
 rintro e w2⟨y,rfl,hb2,hy⟩
 obtain⟨hc2,hf2⟩:=HCF.out w2 hb2
 have b0:=hc2 0 _ rfl
 rw[HNG.out]at b0
 simp only[Nat.add_zero]at b0
 have b1:=hc2 1 _ rfl
 have b2:=hc2 2 _ rfl
 have b3:=hc2 3 _ rfl
 have b4:=hc2 4 _ rfl
 have b5:=hc2 5 _ rfl
 have b6:=hc2 6 _ rfl
 have b7:=hc2 7 _ rfl
 have b8:=hc2 8 _ rfl
 have b9:=hc2 9 _ rfl
 have b10:=hc2 10 _ rfl
 have v0:=hf2 (o)
 have v1:=hf2 (o+1)
 have v2:=hf2 (o+2)
 have v3:=hf2 (o+3)
 have v4:=hf2 (o+4)
 have v5:=hf2 (o+5)
 have v6:=hf2 (o+6)
 have v7:=hf2 (o+7)
 have v8:=hf2 (o+8)
 have v9:=hf2 (o+9)
 have v10:=hf2 (o+10)
 have hS:=HH.out HO.out.symm hb2 hy
 have hBw:Below B w (nZ w2 g o ng m y):=by
  have hb3:=ae hb2 fF
  unfold nZ
  exact((((((((((hb3.setCell (by exact hBg) _).setCell (by exact hBg) _).setCell (by exact hBg) _).setCell (by exact hBg) _).setCell (by exact hBg) _).setCell (by exact hBg) _).setCell (by exact hBg) _).setCell (by exact hBg) _).setCell (by exact hBg) _).setCell (by exact hBg) _).setCell (by exact hBg) _
 have ql:Hid (_∧_):=And.intro hBw hS
 obtain⟨yk,ym,ya,yb,yg,yn,fB,fw,fA⟩:=y
 simp only[a8]
 clear hc2 hf2 hb2 hy hS hBw CI
 refine hK.out _ _ b0 (fun hHeld=>?_)
 clear hK K
 try simp only[Act.put,lin.sm]
 iterate 2
  refine UK.take (v:=?_) rfl (by kernel_rfl) (fun _ _ _ h=>h) (by rfl) ?_ (by assumption) ?_
  rotate_left
  ·(intro w' hSw;(try dsimp only at hSw);go_simp;try with_reducible rfl)
  try simp only[Act.put,lin.sm]
 refine UK.last (by kernel_rfl) rfl (fun K hK=>?_)
 go_simp
 refine hK.out _ (nZ w2 g o ng m ⟨yk,ym,ya,yb,yg,yn,fB,fw,fA⟩) ?_
 clear hK K
 try simp only[Act.put,lin.sm]
 have hHeld:=True.intro
 refine lin.UH.fin (by kernel_rfl) ?_
 clear hHeld b0 v0 b1 v1 b2 v2 b3 v3 b4 v4 b5 v5 b6 v6 b7 v7 b8 v8 b9 v9 b10 v10
 generalize nZ w2 g o ng m ⟨yk,ym,ya,yb,yg,yn,fB,fw,fA⟩=W4 at*
 go_end0
 exact⟨rfl,ql.out.1,_,ql.out.2⟩
end Go.Proofs.YtgbkolonhddolaaGreatDoor.prs
