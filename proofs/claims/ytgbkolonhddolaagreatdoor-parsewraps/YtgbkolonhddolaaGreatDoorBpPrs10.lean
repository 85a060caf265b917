import Derived.Test.YtgbkolonhddolaaGreatDoorBpPrs9
set_option linter.unusedSectionVars false
set_option linter.unusedSimpArgs false
set_option linter.unusedVariables false
set_option maxRecDepth 100000
set_option maxHeartbeats 2000000
theorem Go.Proofs.YtgbkolonhddolaaGreatDoor.Ex{p:Prop}(h:p):Go.RowKit.Hid p:=h
namespace Go.Proofs.YtgbkolonhddolaaGreatDoor.prs
open Go.RowKit nod tok
open rng(R RV info_parts)
open lin(BA)
variable[gh:Gh]
theorem Px.JG{B:Nat}{w:World}{pb nx nm bl b cl cv nv}{g cap:Nat}(h:Px B w pb nx nm (b::bl) cl (.slice (some ⟨g,0,none⟩) (bl.length+1) cap) cv nv):
  Px B (w.setCell ⟨pb,1,none⟩ (.slice (some ⟨g,0,none⟩) bl.length cap)) pb nx nm bl cl (.slice (some ⟨g,0,none⟩) bl.length cap) cv nv∧NU none w (w.setCell ⟨pb,1,none⟩ (.slice (some ⟨g,0,none⟩) bl.length cap)):=by
 have hu:=Px.jT (B:=B) _ h.blk 1 (.slice (some ⟨g,0,none⟩) bl.length cap)
 have zR:=h.bo
 rw[List.length_cons,List.reverse_cons]at zR
 have hb2:=Eg xM zR (by rw[List.length_reverse])
 exact⟨⟨by have:=h.blk.set 1 (.slice (some ⟨g,0,none⟩) bl.length cap);simpa using this,h.pB,hb2.kept (ay _ _ _ _) (az hb2 h.blk (by decide)),h.co.kept (ay _ _ _ _) (az h.co h.blk (by decide)),h.no.kept (ay _ _ _ _) (az h.no h.blk (by decide)),h.gh.grown (ay _ _ _ _) fun k e=>by cases e;exact lS h.blk (by decide)⟩,hu⟩
theorem Rows.o5{B:Nat}{w w':World}{rs:List Lr}{q:Nat}(h:Rows B w ((.slice (some ⟨q,0,none⟩) 0 1,[])::rs))(hg:w.grownBy w' (some q)):Rows B w' rs:=by
 have hap:=List.pairwise_cons.1 h.apart
 refine⟨fun r hr=>?_,hap.2⟩
 obtain⟨xs,h1,h2⟩:=h.each r (by simp[hr])
 refine⟨xs,Cc h1 (NU.aF hg) ?_,h2.imp fun t v f=>f.o5 hg⟩
 rcases hap.1 r hr with e|e
 ·cases e
 ·exact .inr fun e'=>e e'.symm
/--The state behind close, put together: w4 is the world ahead of node, w5 behind it, w7 behind the kid's store. -/
theorem Sx.closed{K B:Nat}{w w4 w5 w7:World}{pb nx d d2 bs' cs nm b b2 bl cl bv cv nv}{g cap p r:Nat}{y:Nv}(h:Sx K B w pb ⟨nx,d::d2::bs',cs,nm⟩ (b::b2::bl) cl bv cv nv)
  (hu4:NU none w w4)(hs4:w.heap.size≤w4.heap.size)(hpx4:Px B w4 pb nx nm (b2::bl) cl (.slice (some ⟨g,0,none⟩) (bl.length+1) cap) cv nv)
  (hp:w.heap.size≤p)(hg5:w4.grownBy w5 (Value.slice b.ah.1 b.ah.2.1 b.ah.2.2).ownBlock)(hpN:lh w5 p)
  (hr5:Rows B w5 ((.slice (some ⟨p,0,none⟩) 0 1,[])::rowsOf (b2::bl) (d2::bs') cl cs))(hf5:∀t u,Fz (Dd B w4 ((.slice b.ah.1 b.ah.2.1 b.ah.2.2,d.dH)::(.slice b.pt.1 b.pt.2.1 b.pt.2.2,d.pts)::(.slice (some ⟨p,0,none⟩) 0 1,[])::rowsOf (b2::bl) (d2::bs') cl cs)) w4 t u→Fz (Dd B w5 ((.slice (some ⟨p,0,none⟩) 0 1,[])::rowsOf (b2::bl) (d2::bs') cl cs)) w5 t u)
  (Ew:∀t u,Fz (Dd B w (rowsOf (b::b2::bl) (d::d2::bs') cl cs)) w t u→Fz (Dd B w4 ((.slice b.ah.1 b.ah.2.1 b.ah.2.2,d.dH)::(.slice b.pt.1 b.pt.2.1 b.pt.2.2,d.pts)::(.slice (some ⟨p,0,none⟩) 0 1,[])::rowsOf (b2::bl) (d2::bs') cl cs)) w4 t u)
  (hahN:∀k,(Value.slice b.ah.1 b.ah.2.1 b.ah.2.2).ownBlock=some k→lh w4 k)
  (hg7:w5.grownBy w7 (some p))(hr:Bk w7 r #[.int .i64 y.k,.int .i64 y.m,.int .i64 y.a,.int .i64 y.b,.bool y.g,.string y.nm,.slice none 0 0,.slice y.ka y.kn y.kc] 26)(hr7:w5.heap.size≤r)(hy:Fz (Dd B w5 ((.slice (some ⟨p,0,none⟩) 0 1,[])::rowsOf (b2::bl) (d2::bs') cl cs)) w5 d.node (a8 y)):
  Sx K B w7 pb ⟨nx,d2::bs',cs,nm⟩ (b2::bl) cl (.slice (some ⟨g,0,none⟩) (bl.length+1) cap) cv nv∧Fz (Dd B w7 (rowsOf (b2::bl) (d2::bs') cl cs)) w7 (ou d.iJ [d.node]) (a8 ⟨b.k,b.m,b.a,0,false,BA b.nm,some ⟨r,0,none⟩,1,1⟩):=by
 have hpx7:=(hpx4.grown hg5 hahN).grown hg7 (fun k e=>by cases e;exact hpN)
 have hrows:=hr5.o5 hg7
 have hbr:=h.br
 cases hbr with
 |cons _ _ _ _ e hi hn' hbr2=>
  refine⟨⟨hpx7,hbr2,h.cx.imp fun t u f=>(hf5 t u (Ew t u f)).o5 hg7,hrows,by have:=h.lb;simp only[List.length_cons]at*;omega,h.lc,h.ln,fun q hq=>h.lr q ?_⟩,?_⟩
  ·simp only[rowsOf,rowsB,List.cons_append,List.mem_cons]at hq⊢
   exact .inr (.inr hq)
  ·have hk:ou d.iJ [d.node]=.mk b.k b.m b.a 0 false (BA b.nm) [] [d.node]:=by rw[e];rfl
   rw[hk]
   exact KW hr (hy.o5 hg7) ⟨⟨⟨_,_,hr⟩,by have h1:=h.px.pB;have h2:=h.px.blk.lt;have h3:=hg5.size;omega⟩,fun q hq e'=>by
    obtain⟨ys,h1,_⟩:=hr5.each q (by simp[hq])
    have:=(h1.lt r e').2
    omega⟩ ⟨hi.1,hi.2.1,hi.2.2,ai _ (by decide)⟩ hn'
theorem Ib{KK B:Nat}{w:World}{pb nx d bs' cs nm b bl cl bv cv nv}(h:Sx KK B w pb ⟨nx,d::bs',cs,nm⟩ (b::bl) cl bv cv nv)(hKb:KK≤100000):
  Calls Tryz.prog 27 #[.pointer (some ⟨pb,0,none⟩)] w fun e w'=>Ok (KK+1) B pb w (closeS ⟨nx,d::bs',cs,nm⟩) e w':=by
 have fF:=h.base
 have Eu:=h.px.pB
 have hpb:=h.px.blk.lt
 obtain⟨g,cap,rfl,hBg,hgl,hcap,_,hcell,_⟩:=h.px.body
 have hlb:=h.lb
 simp only[List.length_cons]at hlb
 have x1:=h.px.blk.cell 1 (u:=.slice (some ⟨g,0,none⟩) (bl.length+1) cap) rfl
 cases bl with
 |nil=>
  obtain rfl:bs'=[]:=by have:=h.br.len;simp at this;first|exact this.symm|exact this|exact List.length_eq_zero_iff.1 this.symm
  have HE:Hid (Ok (KK+1) B pb w (closeS ⟨nx,[d],cs,nm⟩) (.returned (.int .i64 133)) w):=⟨Below.refl _ _,.inl ⟨133,rfl,rfl,h.px.gh⟩⟩
  clear h hcell
  go_enter Tryz.func27,Tryz.ntmps27
  go_wp2
  go_ret
  exact HE.out
 |cons b2 bl=>
  obtain⟨d2,LC,rfl⟩:∃d2 LC,bs'=d2::LC:=by
   have:=h.br.len
   cases bs' with
   |nil=>simp at this
   |cons d2 LC=>exact⟨d2,LC,rfl⟩
  have HST:Hid (closeS ⟨nx,d::d2::LC,cs,nm⟩=.ok ⟨nx,eQ (ou d.iJ [d.node]) d2::LC,cs,nm⟩):=rfl
  have HH:=Ex h
  simp only[List.length_cons]at x1 hcap hcell hlb
  have CB1:=oJ w pb g _ cv nv (bl.length+1) cap h.px.blk (by omega)
  have hne1:((((bl.length:Nat):Int)+1+1)==1)=false:=by simp;omega
  have c0:=hcell 0 _ rfl
  have c1:=hcell 1 _ rfl
  have c2:=hcell 2 _ rfl
  have c3:=hcell 3 _ rfl
  have c4:=hcell 4 _ rfl
  have c5:=hcell 5 _ rfl
  have c6:=hcell 6 _ rfl
  have c7:=hcell 7 _ rfl
  have c8:=hcell 8 _ rfl
  have c9:=hcell 9 _ rfl
  simp only[Nat.add_zero]at c0
  obtain⟨L,hL⟩:∃L,bl.length=L:=⟨_,rfl⟩
  have HL:Hid (bl.length=L):=hL
  obtain⟨⟨q0,q1,q2⟩,hah⟩:∃v,b.ah=v:=⟨_,rfl⟩
  obtain⟨⟨p0,p1,p2⟩,hpt⟩:∃v,b.pt=v:=⟨_,rfl⟩
  have HAH:Hid (b.ah=(q0,q1,q2)):=hah
  have IK:Hid (b.pt=(p0,p1,p2)):=hpt
  rw[hah]at c8
  rw[hpt]at c9
  obtain⟨bk,hbk⟩:∃v,b.k=v:=⟨_,rfl⟩
  obtain⟨bm,hbm⟩:∃v,b.m=v:=⟨_,rfl⟩
  obtain⟨ba,Cy⟩:∃v,b.a=v:=⟨_,rfl⟩
  obtain⟨X,hX⟩:∃v,BA b.nm=v:=⟨_,rfl⟩
  have wG:Hid (b.k=bk∧b.m=bm∧b.a=ba∧BA b.nm=X):=⟨hbk,hbm,Cy,hX⟩
  rw[hbk]at c0
  rw[hbm]at c1
  rw[Cy]at c2
  rw[hX]at c5
  rw[hL]at x1 hcap CB1 c0 c1 c2 c3 c4 c5 c6 c7 c8 c9 hne1 hlb
  have HC:Hid (∀w',Below w.heap.size w w'→w'.cell? ⟨g,(L+1)*10,none⟩=some (.int .i64 bk)∧w'.cell? ⟨g,(L+1)*10+1,none⟩=some (.int .i64 bm)∧w'.cell? ⟨g,(L+1)*10+2,none⟩=some (.int .i64 ba)∧w'.cell? ⟨g,(L+1)*10+3,none⟩=some (.int .i64 0)∧w'.cell? ⟨g,(L+1)*10+4,none⟩=some (.bool false)∧w'.cell? ⟨g,(L+1)*10+5,none⟩=some (.string X)∧w'.cell? ⟨g,(L+1)*10+6,none⟩=some (.slice none 0 0)∧w'.cell? ⟨g,(L+1)*10+7,none⟩=some (.slice none 0 0)∧w'.cell? ⟨g,(L+1)*10+8,none⟩=some (.slice q0 q1 q2)∧w'.cell? ⟨g,(L+1)*10+9,none⟩=some (.slice p0 p1 p2)):=fun w' hb=>⟨(hb.cell (p:=⟨g,(L+1)*10,none⟩) hgl).trans c0,(hb.cell (p:=⟨g,(L+1)*10+1,none⟩) hgl).trans c1,(hb.cell (p:=⟨g,(L+1)*10+2,none⟩) hgl).trans c2,(hb.cell (p:=⟨g,(L+1)*10+3,none⟩) hgl).trans c3,(hb.cell (p:=⟨g,(L+1)*10+4,none⟩) hgl).trans c4,(hb.cell (p:=⟨g,(L+1)*10+5,none⟩) hgl).trans c5,(hb.cell (p:=⟨g,(L+1)*10+6,none⟩) hgl).trans c6,(hb.cell (p:=⟨g,(L+1)*10+7,none⟩) hgl).trans c7,(hb.cell (p:=⟨g,(L+1)*10+8,none⟩) hgl).trans c8,(hb.cell (p:=⟨g,(L+1)*10+9,none⟩) hgl).trans c9⟩
  clear h hcell hah hpt hbk hbm Cy hX hL c0 c1 c2 c3 c4 c5 c6 c7 c8 c9
  go_enter Tryz.func27,Tryz.ntmps27
  go_upto_region 3 with fail
  go_wp2_with fail
  refine CB1.mono ?_
  rintro e w1⟨rfl,hb1⟩
  clear CB1
  obtain⟨k0,k1,k2,k3,k4,k5,k6,k7,k8,k9⟩:=HC.out w1 hb1
  have B2:Below w.heap.size w (w1.alloc (.cells #[.int .i64 bk,.int .i64 bm,.int .i64 ba,.int .i64 0,.bool false,.string X,.slice none 0 0,.slice none 0 0,.slice q0 q1 q2,.slice p0 p1 p2] 58)):=hb1.alloc hb1.size _
  have QB:Bk (w1.alloc (.cells #[.int .i64 bk,.int .i64 bm,.int .i64 ba,.int .i64 0,.bool false,.string X,.slice none 0 0,.slice none 0 0,.slice q0 q1 q2,.slice p0 p1 p2] 58)) w1.heap.size #[.int .i64 bk,.int .i64 bm,.int .i64 ba,.int .i64 0,.bool false,.string X,.slice none 0 0,.slice none 0 0,.slice q0 q1 q2,.slice p0 p1 p2] 58:=Bk.new w1 _ _
  obtain⟨w2,hw2⟩:∃w2,w1.alloc (.cells #[.int .i64 bk,.int .i64 bm,.int .i64 ba,.int .i64 0,.bool false,.string X,.slice none 0 0,.slice none 0 0,.slice q0 q1 q2,.slice p0 p1 p2] 58)=w2:=⟨_,rfl⟩
  have HW2:=Ex hw2
  have hz2:w2.heap.size=w1.heap.size+1:=by rw[←hw2];simp
  rw[hw2]at B2 QB
  obtain⟨q,hq⟩:∃q,w1.heap.size=q:=⟨_,rfl⟩
  have HQ:Hid (w1.heap.size=q):=hq
  have hs1:=hb1.size
  rw[hq]at QB hz2 hs1
  have HB2:Hid (Below w.heap.size w w2):=B2
  have HQB:=Ex QB
  clear hb1 B2 QB hw2 hq
  go_upto_region 4 with fail
  rw[HQ.out,HW2.out]
  clear k0 k1 k2 k3 k4 k5 k6 k7 k8 k9
  have hp2:=HH.out.below HB2.out
  have x1:=hp2.px.blk.cell 1 (u:=.slice (some ⟨g,0,none⟩) (bl.length+1+1) cap) rfl
  have f1:=hp2.px.blk.frozen 1
  have hD2:Below w2.heap.size w2 w2.drew:=(Below.refl _ w2).drew
  have AX:=(hp2.below hD2).px.JG
  simp only[List.length_cons]at AX
  rw[HL.out]at x1 AX
  have HPO:Hid (_∧_):=AX
  have e1:IntKind.i64.wrap ((L:Int)+1)=(L:Int)+1:=wrap64 ((L:Int)+1) (by omega) (by omega)
  have e1':IntKind.i64.wrap ((L:Int)+1+1-1)=(L:Int)+1:=by rw[show(L:Int)+1+1-1=(L:Int)+1 by omega];exact e1
  have e2:(L:Int)+1≤(cap:Int):=by omega
  have e3:(0:Int)≤(L:Int)+1:=by omega
  clear hp2 AX
  refine wp_region_noPanic ?_
  refine aZ 14 (fun w'=>w'.cell? ⟨pb,1,none⟩=some (.slice (some ⟨g,0,none⟩) (L+1+1) cap)) (by kernel_rfl) x1 (fun hHeld=>?_)
  refine gH 0 (v:=?_) rfl (by kernel_rfl) (fun _ _ _ h=>h) (by rfl) ?_ (by assumption) ?_
  rotate_left
  ·(intro w' hSw;(try dsimp only at hSw);go_simp;try with_reducible rfl)
  try simp only[Act.put,lin.sm]
  refine gH 1 (v:=?_) rfl (by kernel_rfl) (fun _ _ _ h=>h) (by rfl) ?_ (by assumption) ?_
  rotate_left
  ·(intro w' hSw;(try dsimp only at hSw);go_simp;try with_reducible rfl)
  try simp only[Act.put,lin.sm]
  refine gH 2 (v:=?_) rfl (by kernel_rfl) (fun _ _ _ h=>h) (by rfl) ?_ (by assumption) ?_
  rotate_left
  ·(intro w' hSw;(try dsimp only at hSw);go_simp;try with_reducible rfl)
  try simp only[Act.put,lin.sm]
  refine gH 3 (v:=?_) rfl (by kernel_rfl) (fun _ _ _ h=>h) (by rfl) ?_ (by assumption) ?_
  rotate_left
  ·(intro w' hSw;(try dsimp only at hSw);go_simp;try with_reducible rfl)
  try simp only[Act.put,lin.sm]
  refine gH 4 (v:=?_) rfl (by kernel_rfl) (fun _ _ _ h=>h) (by rfl) ?_ (by assumption) ?_
  rotate_left
  ·(intro w' hSw;(try dsimp only at hSw);go_simp;try with_reducible rfl)
  try simp only[Act.put,lin.sm]
  refine gH 5 (v:=?_) rfl (by kernel_rfl) (fun _ _ _ h=>h) (by rfl) ?_ (by assumption) ?_
  rotate_left
  ·(intro w' hSw;(try dsimp only at hSw);go_simp;try with_reducible rfl)
  try simp only[Act.put,lin.sm]
  refine gH 6 (v:=?_) rfl (by kernel_rfl) (fun _ _ _ h=>h) (by rfl) ?_ (by assumption) ?_
  rotate_left
  ·(intro w' hSw;(try dsimp only at hSw);go_simp;try with_reducible rfl)
  try simp only[Act.put,lin.sm]
  refine gH 7 (v:=?_) rfl (by kernel_rfl) (fun _ _ _ h=>h) (by rfl) ?_ (by assumption) ?_
  rotate_left
  ·(intro w' hSw;(try dsimp only at hSw);go_simp;try with_reducible rfl)
  try simp only[Act.put,lin.sm]
  refine gH 8 (v:=?_) rfl (by kernel_rfl) (fun _ _ _ h=>h) (by rfl) ?_ (by assumption) ?_
  rotate_left
  ·(intro w' hSw;(try dsimp only at hSw);go_simp;try with_reducible rfl)
  try simp only[Act.put,lin.sm]
  refine gH 9 (v:=?_) rfl (by kernel_rfl) (fun _ _ _ h=>h) (by rfl) ?_ (by assumption) ?_
  rotate_left
  ·(intro w' hSw;(try dsimp only at hSw);go_simp;try with_reducible rfl)
  try simp only[Act.put,lin.sm]
  refine gH 10 (v:=?_) rfl (by kernel_rfl) (fun _ _ _ h=>h) (by rfl) ?_ (by assumption) ?_
  rotate_left
  ·(intro w' hSw;(try dsimp only at hSw);go_simp;try with_reducible rfl)
  try simp only[Act.put,lin.sm]
  refine gH 11 (v:=?_) rfl (by kernel_rfl) (fun _ _ _ h=>h) (by rfl) ?_ (by assumption) ?_
  rotate_left
  ·(intro w' hSw;(try dsimp only at hSw);go_simp;try with_reducible rfl)
  try simp only[Act.put,lin.sm]
  refine jf (i:=12) (v:=?_) rfl (by kernel_rfl) (by kernel_rfl) (by kernel_rfl) (by decide) (fun _ _ _ h=>h) (Or.inl ⟨by rfl,?_⟩) (by assumption) ?_
  rotate_left
  ·(intro w' hSw;(try dsimp only at hSw);go_simp;try with_reducible rfl)
  try simp only[Act.put,lin.sm]
  refine gH 13 (v:=?_) rfl (by kernel_rfl) (fun _ _ _ h=>h) (by rfl) ?_ (by assumption) ?_
  rotate_left
  ·(intro w' hSw;(try dsimp only at hSw);go_simp;try with_reducible rfl)
  try simp only[Act.put,lin.sm]
  refine aU (by kernel_rfl) rfl (fun K hK=>?_)
  go_simp
  refine hK.out _ _ ?_
  clear hK K
  try simp only[Act.put,lin.sm]
  refine wpAny_of_held (S:=fun _=>True) _ _ _ _ ?_
  have hHeld:=True.intro
  refine wpAnyH_done (by kernel_rfl) ?_ _
  refine NoPanic.normal ?_
  obtain⟨w3,hw3⟩:∃w3,(w2.setCell ⟨pb,1,none⟩ (.slice (some ⟨g,0,none⟩) (L+1) cap)).drew=w3:=⟨_,rfl⟩
  have HPX3:Hid (Px B w3 pb nx nm (b2::bl) cl (.slice (some ⟨g,0,none⟩) (L+1) cap) cv nv∧NU none w2.drew w3):=by rw[←hw3];exact HPO.out
  have qL:Hid (Bk w3 q #[.int .i64 bk,.int .i64 bm,.int .i64 ba,.int .i64 0,.bool false,.string X,.slice none 0 0,.slice none 0 0,.slice q0 q1 q2,.slice p0 p1 p2] 58):=by rw[←hw3];exact(HQB.out.apart (by omega) _).on (Below.refl _ _).drew
  have HB3:Hid (Below B w w3):=by rw[←hw3];exact((ae HB2.out fF).setCell (by exact Eu) _).drew
  have hs3:w3.heap.size=w2.heap.size:=by rw[←hw3];simp[World.drew]
  have hu3:NU none w w3:=((NU.of_below HB2.out).trans (NU.of_below hD2)).trans HPX3.out.2
  have HU3:Hid (NU none w w3):=hu3
  rw[hw3]
  clear hw3 HQB HPO hHeld f1 x1 hD2 hu3
  have B34:Below w3.heap.size w3 (w3.alloc (.cells #[.int .i64 bk,.int .i64 bm,.int .i64 ba,.int .i64 0,.bool false,.string X,.slice none 0 0,.slice none 0 0] 26)):=(Below.refl _ w3).alloc (Nat.le_refl _) _
  have PB4:Bk (w3.alloc (.cells #[.int .i64 bk,.int .i64 bm,.int .i64 ba,.int .i64 0,.bool false,.string X,.slice none 0 0,.slice none 0 0] 26)) w3.heap.size #[.int .i64 bk,.int .i64 bm,.int .i64 ba,.int .i64 0,.bool false,.string X,.slice none 0 0,.slice none 0 0] 26:=Bk.new w3 _ _
  obtain⟨w4,hw4⟩:∃w4,w3.alloc (.cells #[.int .i64 bk,.int .i64 bm,.int .i64 ba,.int .i64 0,.bool false,.string X,.slice none 0 0,.slice none 0 0] 26)=w4:=⟨_,rfl⟩
  have HW4:=Ex hw4
  have hz4:w4.heap.size=w3.heap.size+1:=by rw[←hw4];simp
  rw[hw4]at B34 PB4
  obtain⟨p,hp⟩:∃p,w3.heap.size=p:=⟨_,rfl⟩
  have Mf:Hid (w3.heap.size=p):=hp
  have HP4:Hid (Bk w4 p #[.int .i64 bk,.int .i64 bm,.int .i64 ba,.int .i64 0,.bool false,.string X,.slice none 0 0,.slice none 0 0] 26):=by rw[←hp];exact PB4
  have EM:=Ex (qL.out.on B34)
  have HPX4:=Ex (HPX3.out.1.below B34)
  have HU4:Hid (NU none w w4):=HU3.out.trans (NU.of_below B34)
  have uO:Hid (Below B w w4):=HB3.out.trans (ae B34 (by omega))
  have hps:q<p:=by omega
  have hwp:w.heap.size≤p:=by omega
  have hz4':w3.heap.size≤w4.heap.size:=by omega
  have HLH:Hid (∀k,(Value.slice b.ah.1 b.ah.2.1 b.ah.2.2).ownBlock=some k→k<w.heap.size∧lh w k∧B≤k):=fun k e=>by
   obtain⟨ys,h1,_⟩:=HH.out.rows.each (.slice b.ah.1 b.ah.2.1 b.ah.2.2,d.dH) (by simp[rowsOf,rowsB])
   exact⟨(h1.lt k e).2,lh.own h1 e,(h1.lt k e).1⟩
  have HBW4:B≤w4.heap.size:=by omega
  obtain⟨hR4,Ew⟩:=(HH.out.rows.nu HU3.out).fake (by omega) B34 HP4.out (by omega)
  have hsw:((.slice (some ⟨p,0,none⟩) 0 1,[])::rowsOf (b::b2::bl) (d::d2::LC) cl cs:List Lr).Perm ((.slice b.ah.1 b.ah.2.1 b.ah.2.2,d.dH)::(.slice b.pt.1 b.pt.2.1 b.pt.2.2,d.pts)::(.slice (some ⟨p,0,none⟩) 0 1,[])::rowsOf (b2::bl) (d2::LC) cl cs):=(List.Perm.swap _ _ _).trans ((List.Perm.swap _ _ _).cons _)
  have HF4:Hid (∀t u,Fz (Dd B w (rowsOf (b::b2::bl) (d::d2::LC) cl cs)) w t u→Fz (Dd B w4 ((.slice b.ah.1 b.ah.2.1 b.ah.2.2,d.dH)::(.slice b.pt.1 b.pt.2.1 b.pt.2.2,d.pts)::(.slice (some ⟨p,0,none⟩) 0 1,[])::rowsOf (b2::bl) (d2::LC) cl cs)) w4 t u):=fun t u f=>(Ew t u (f.nu HU3.out)).mono fun k hk=>gu hsw k hk
  have HCN:Hid (Calls Tryz.prog 18 #[.pointer (some ⟨q,0,none⟩)] w4 _):=zx (B:=B) (w:=w4) (pg:=q) (po:=0) (d:=d) (Q:=(.slice (some ⟨p,0,none⟩) 0 1,[])::rowsOf (b2::bl) (d2::LC) cl cs) (by rw[HAH.out];exact EM.out.cell 8 rfl) (by rw[IK.out];exact EM.out.cell 9 rfl) (hR4.perm hsw) HBW4 (by have:=HH.out.lr (.slice b.ah.1 b.ah.2.1 b.ah.2.2,d.dH) (by simp[rowsOf,rowsB]);simp only at this;omega) (fun x e=>by have:=(HLH.out x e).1;omega)
  clear hs3 hz2 hz4 hp B34 PB4 hw4 hR4 Ew hsw
  have u0:=qL.out.cell 0 (u:=.int .i64 bk) rfl
  have u1:=qL.out.cell 1 (u:=.int .i64 bm) rfl
  have u2:=qL.out.cell 2 (u:=.int .i64 ba) rfl
  have u3:=qL.out.cell 3 (u:=.int .i64 0) rfl
  have u4:=qL.out.cell 4 (u:=.bool false) rfl
  have u5:=qL.out.cell 5 (u:=.string X) rfl
  have u6:=qL.out.cell 6 (u:=.slice none 0 0) rfl
  have u7:=qL.out.cell 7 (u:=.slice none 0 0) rfl
  have u8:=qL.out.cell 8 (u:=.slice q0 q1 q2) rfl
  have u9:=qL.out.cell 9 (u:=.slice p0 p1 p2) rfl
  go_upto_region 6 with fail
  rw[Mf.out,HW4.out]
  go_wp2_with fail
  refine HCN.out.mono ?_
  rintro e w5⟨⟨yk,ym,ya,yb,yg,yn,fB,fw,fA⟩,rfl,hg5,hy,hr5,hf5⟩
  simp only[a8]
  clear HCN
  have hP5:Bk w5 p #[.int .i64 bk,.int .i64 bm,.int .i64 ba,.int .i64 0,.bool false,.string X,.slice none 0 0,.slice none 0 0] 26:=(hg5.block p HP4.out.lt (fun e=>by have:=(HLH.out p e.symm).1;omega)).trans HP4.out
  have hs5:=hg5.size
  have hb5:Below w5.heap.size w5 (w5.alloc (.cells #[.int .i64 yk,.int .i64 ym,.int .i64 ya,.int .i64 yb,.bool yg,.string yn,.slice none 0 0,.slice fB fw fA] 26)):=(Below.refl _ w5).alloc (Nat.le_refl _) _
  have hY6:Bk (w5.alloc (.cells #[.int .i64 yk,.int .i64 ym,.int .i64 ya,.int .i64 yb,.bool yg,.string yn,.slice none 0 0,.slice fB fw fA] 26)) w5.heap.size #[.int .i64 yk,.int .i64 ym,.int .i64 ya,.int .i64 yb,.bool yg,.string yn,.slice none 0 0,.slice fB fw fA] 26:=Bk.new w5 _ _
  have hP6:Bk (w5.alloc (.cells #[.int .i64 yk,.int .i64 ym,.int .i64 ya,.int .i64 yb,.bool yg,.string yn,.slice none 0 0,.slice fB fw fA] 26)) p #[.int .i64 bk,.int .i64 bm,.int .i64 ba,.int .i64 0,.bool false,.string X,.slice none 0 0,.slice none 0 0] 26:=hP5.on hb5
  have a7:=hP6.cell 7 rfl
  have b7:=hP6.frozen 7
  obtain⟨w6,hw6⟩:∃w6,w5.alloc (.cells #[.int .i64 yk,.int .i64 ym,.int .i64 ya,.int .i64 yb,.bool yg,.string yn,.slice none 0 0,.slice fB fw fA] 26)=w6:=⟨_,rfl⟩
  have HW6:=Ex hw6
  obtain⟨r,hr⟩:∃r,w5.heap.size=r:=⟨_,rfl⟩
  have HRR:Hid (w5.heap.size=r):=hr
  have hpr:p<r:=by have:=hP5.lt;omega
  rw[hw6]at hb5 hY6 hP6
  rw[hr]at hY6
  have hP7:Bk (w6.setCell ⟨p,7,none⟩ (.slice (some ⟨r,0,none⟩) 1 1)) p #[.int .i64 bk,.int .i64 bm,.int .i64 ba,.int .i64 0,.bool false,.string X,.slice none 0 0,.slice (some ⟨r,0,none⟩) 1 1] 26:=by have:=hP6.set 7 (.slice (some ⟨r,0,none⟩) 1 1);simpa using this
  have hY7:Bk (w6.setCell ⟨p,7,none⟩ (.slice (some ⟨r,0,none⟩) 1 1)) r #[.int .i64 yk,.int .i64 ym,.int .i64 ya,.int .i64 yb,.bool yg,.string yn,.slice none 0 0,.slice fB fw fA] 26:=hY6.apart (by omega) _
  have hg7:w5.grownBy (w6.setCell ⟨p,7,none⟩ (.slice (some ⟨r,0,none⟩) 1 1)) (some p):=fK (iZ _ hb5) (ay _ p 7 _) fun i e=>.inl e
  have hHL:=HL.out
  have DI:=HH.out.closed (w4:=w4) (w5:=w5) (w7:=w6.setCell ⟨p,7,none⟩ (.slice (some ⟨r,0,none⟩) 1 1)) (g:=g) (cap:=cap) (p:=p) (r:=r) (y:=⟨yk,ym,ya,yb,yg,yn,fB,fw,fA⟩) HU4.out (Nat.le_of_lt (Nat.lt_of_le_of_lt hwp HP4.out.lt)) (by rw[hHL];exact HPX4.out) hwp hg5 ⟨_,_,hP5⟩ hr5 hf5 HF4.out (fun k e=>HU4.out.lh (HLH.out k e).2.1 (by simp)) hg7 hY7 (by omega) hy
  have tZ:Hid (Below B w (w6.setCell ⟨p,7,none⟩ (.slice (some ⟨r,0,none⟩) 1 1))):=((uO.out.trans (Below.aF hg5 HBW4 fun k e=>(HLH.out k e).2.2)).trans (ae hb5 (by omega))).setCell (by show B≤p;omega) _
  have HC7:Hid (_∧_):=DI
  have Ba:=Ex hP7
  clear hg5 hy hr5 hf5 hP5 hs5 hb5 hY6 hP6 hw6 hr hP7 hY7 hg7 hHL DI HPX3 HU3 qL HB3 HP4 EM HPX4 HU4 uO HF4 HLH u0 u1 u2 u3 u4 u5 u6 u7 u8 u9
  go_upto_region 7 with fail
  rw[HRR.out,HW6.out]
  clear a7 b7
  generalize w6.setCell ⟨p,7,none⟩ (.slice (some ⟨r,0,none⟩) 1 1)=w7 at*
  obtain⟨Ey,hF7⟩:=HC7.out
  rw[(wG.out).1,(wG.out).2.1,(wG.out).2.2.1,(wG.out).2.2.2]at hF7
  have mV:Hid (Sx KK B w7 pb _ _ _ _ _ _):=Ey
  have HF7:=Ex hF7
  have nP:Hid (∀w',Below w7.heap.size w7 w'→Calls Tryz.prog 17 #[.pointer (some ⟨pb,0,none⟩)] w' fun e w''=>e=.returned (.pointer (some ⟨g,bl.length*10,none⟩))∧Below w'.heap.size w' w''):=fun w' hb=>oJ w' pb g _ _ nv bl.length cap (mV.out.below hb).px.blk (by have:=HL.out;omega)
  have HM:Hid (∀w',Below w7.heap.size w7 w'→w'.cell? ⟨p,0,none⟩=some (.int .i64 bk)∧w'.cell? ⟨p,1,none⟩=some (.int .i64 bm)∧w'.cell? ⟨p,2,none⟩=some (.int .i64 ba)∧w'.cell? ⟨p,3,none⟩=some (.int .i64 0)∧w'.cell? ⟨p,4,none⟩=some (.bool false)∧w'.cell? ⟨p,5,none⟩=some (.string X)∧w'.cell? ⟨p,6,none⟩=some (.slice none 0 0)∧w'.cell? ⟨p,7,none⟩=some (.slice (some ⟨r,0,none⟩) 1 1)):=fun w' hb=>⟨(Ba.out.on hb).cell 0 rfl,(Ba.out.on hb).cell 1 rfl,(Ba.out.on hb).cell 2 rfl,(Ba.out.on hb).cell 3 rfl,(Ba.out.on hb).cell 4 rfl,(Ba.out.on hb).cell 5 rfl,(Ba.out.on hb).cell 6 rfl,(Ba.out.on hb).cell 7 rfl⟩
  have HBs7:B≤w7.heap.size:=Nat.le_trans fF tZ.out.size
  have l0:=Ba.out.cell 0 (u:=.int .i64 bk) rfl
  have l1:=Ba.out.cell 1 (u:=.int .i64 bm) rfl
  have l2:=Ba.out.cell 2 (u:=.int .i64 ba) rfl
  have l3:=Ba.out.cell 3 (u:=.int .i64 0) rfl
  have l4:=Ba.out.cell 4 (u:=.bool false) rfl
  have l5:=Ba.out.cell 5 (u:=.string X) rfl
  have l6:=Ba.out.cell 6 (u:=.slice none 0 0) rfl
  have l7:=Ba.out.cell 7 (u:=.slice (some ⟨r,0,none⟩) 1 1) rfl
  clear Ey hF7 HC7
  refine wp_region_noPanic ?_
  refine aZ 3 (fun w'=>w'.cell? ⟨p,0,none⟩=some (.int .i64 bk)∧w'.cell? ⟨p,1,none⟩=some (.int .i64 bm)∧w'.cell? ⟨p,2,none⟩=some (.int .i64 ba)∧w'.cell? ⟨p,3,none⟩=some (.int .i64 0)∧w'.cell? ⟨p,4,none⟩=some (.bool false)∧w'.cell? ⟨p,5,none⟩=some (.string X)∧w'.cell? ⟨p,6,none⟩=some (.slice none 0 0)∧w'.cell? ⟨p,7,none⟩=some (.slice (some ⟨r,0,none⟩) 1 1)) (by kernel_rfl) ⟨l0,l1,l2,l3,l4,l5,l6,l7⟩ (fun hHeld=>?_)
  refine gH 2 (v:=?_) rfl (by kernel_rfl) (fun _ _ _ h=>h) (by rfl) ?_ (by assumption) ?_
  rotate_left
  ·(intro w' hSw;(try dsimp only at hSw);go_simp;try with_reducible rfl)
  try simp only[Act.put,lin.sm]
  refine aG (j:=0) (by kernel_rfl) (by decide) rfl (fun K hK=>?_)
  go_simp
  refine hK.out _ _ ?_ (fun hHeld=>?_)
  ·exact hHeld
  clear hK K
  try simp only[Act.put,lin.sm]
  refine aG (j:=1) (by kernel_rfl) (by decide) rfl (fun K hK=>?_)
  go_simp
  refine(nP.out w7.drew (Below.refl _ _).drew).mono ?_
  rintro e w8⟨rfl,hb8⟩
  have HB78:Hid (Below w7.heap.size w7 w8):=((Below.refl _ w7).drew).trans hb8
  clear hb8
  refine hK.out _ _ (HM.out _ HB78.out) (fun hHeld=>?_)
  clear hK K
  try simp only[Act.put,lin.sm]
  have jX:=EH bk bm ba 0 false X (some ⟨r,0,none⟩) 1 1 (mV.out.below HB78.out) (HF7.out.nu (NU.of_below HB78.out)) hKb
  refine aU (by kernel_rfl) rfl (fun K hK=>?_)
  go_simp
  refine jX.mono ?_
  rintro e w9⟨rfl,hb9,s6,hS9⟩
  have HB9:Hid (Below B w w9):=(tZ.out.trans (ae HB78.out HBs7)).trans hb9
  have HS9:Hid (Sx (KK+1) B w9 pb _ _ _ _ _ _):=hS9
  clear jX hb9 hS9
  refine hK.out _ _ ?_
  clear hK K
  try simp only[Act.put,lin.sm]
  refine wpAny_of_held (S:=fun _=>True) _ _ _ _ ?_
  have hHeld:=True.intro
  refine wpAnyH_done (by kernel_rfl) ?_ _
  refine NoPanic.normal ?_
  clear hHeld
  go_wp2
  go_ret
  exact⟨HB9.out,.inr ⟨_,HST.out,rfl,_,_,_,_,_,HS9.out⟩⟩
end Go.Proofs.YtgbkolonhddolaaGreatDoor.prs
namespace Go.Proofs.YtgbkolonhddolaaGreatDoor.prs
open Go.RowKit nod tok
open rng(R RV info_parts)
open lin(BA)
/--Where a name stands, or -1. -/
def idxN(nm:List (List UInt8))(x:List UInt8):Int:=match nm.findIdx? (·==x)with|some i=>i|none=>-1
theorem yh{a b:List UInt8}(h:BA a=BA b):a=b:=by
 have:(BA a).data=(BA b).data:=by rw[h]
 simpa[BA]using this
theorem ba_ne{X Y:ByteArray}(h:¬X=Y):(X.toList==Y.toList)=false:=by
 rw[Lib.toList_data,Lib.toList_data]
 have:X.data.toList≠Y.data.toList:=fun e=>h (by
  cases X;cases Y
  simp only at e
  congr
  exact Array.toList_inj.1 e)
 simpa using this
theorem vM{B:Nat}{w:World}{na:Option Addr}{n nc:Nat}{nm:List (List UInt8)}(x:List UInt8)(h:w.ownsRow B 9 1 (.slice na n nc) n (nm.map sN))(hn:nm.length=n)(hb:n≤1000000):
  Calls Tryz.prog 43 #[.slice na n nc,.string (BA x)] w fun e w'=>e=.returned (.int .i64 (idxN nm x))∧w'=w:=by
 have HI1:Hid (∀k(hk:k<nm.length),nm[k]=x→(∀i(hi:i<k),nm[i]'(Nat.lt_trans hi hk)≠x)→idxN nm x=k):=fun k hk e h=>by
  unfold idxN
  rw[show nm.findIdx? (·==x)=some k from List.findIdx?_eq_some_iff_getElem.2 ⟨hk,by simp[e],fun j hj=>by simpa using h j hj⟩]
 have HI2:Hid ((∀i(hi:i<nm.length),nm[i]≠x)→idxN nm x=-1):=fun h=>by
  unfold idxN
  rw[show nm.findIdx? (·==x)=none from List.findIdx?_eq_none_iff.2 fun y hy=>by
   obtain⟨i,hi,rfl⟩:=List.mem_iff_getElem.1 hy
   simpa using h i hi]
 have HC:Hid (∀k,k<n→∃g,na=some ⟨g,0,none⟩∧∀(hk:k<nm.length),w.cell? ⟨g,k,none⟩=some (.string (BA nm[k]))):=fun k hk=>by
  obtain⟨g,cap,e,_⟩:=lD h (by omega)
  simp only[Value.slice.injEq]at e
  obtain⟨rfl,-,rfl⟩:=e
  exact⟨g,rfl,fun hk'=>by rw[h.cellAt k (by omega),List.getElem?_map,List.getElem?_eq_getElem hk'];rfl⟩
 have HN:Hid (nm.length=n):=hn
 have HJ:Hid (∀k(hk:k<nm.length),BA nm[k]=BA x→nm[k]=x):=fun k hk e=>yh e
 obtain⟨r,hr⟩:∃r,idxN nm x=r:=⟨_,rfl⟩
 rw[hr]at HI1 HI2⊢
 obtain⟨X,hX⟩:∃X,BA x=X:=⟨_,rfl⟩
 have HX:Hid (X=BA x):=hX.symm
 rw[hX]at HJ⊢
 clear hX
 clear h hn hr
 go_enter Tryz.func43,Tryz.ntmps43
 go_wp2
 go_loopw[8](fun i wr=>∃k:Nat,k≤n∧i=.int .i64 k∧Hid (∀j(hj:j<nm.length),j<k→nm[j]≠x)∧wr=w)(fun i _=>n-(intOf i).toNat)
 case atStart=>exact⟨0,Nat.zero_le _,rfl,fun j _ h=>absurd h (by omega),rfl⟩
 case round=>
  obtain⟨k,hk,rfl,HK,rfl⟩:=hrel
  by_cases hlt:k<n
  ·obtain⟨g,rfl,hc⟩:=HC.out k hlt
   have hkn:k<nm.length:=by have:=HN.out;omega
   have c0:=hc hkn
   obtain⟨Y,hY⟩:∃Y,BA nm[k]=Y:=⟨_,rfl⟩
   have HY:Hid (BA nm[k]=Y):=hY
   rw[hY]at c0
   have hlt':(k:Int)<(n:Int):=by omega
   clear hc hY
   by_cases he:X=Y
   ·subst he
    have HR:Hid (r=k):=HI1.out k hkn (HJ.out k hkn HY.out) fun i hi=>HK.out i (by omega) hi
    clear HI1 HI2 HC HK HJ HY hkn
    go_wp2
    go_ret
    exact⟨by rw[HR.out];rfl,rfl⟩
   ·have b1:(X.toList==Y.toList)=false:=ba_ne he
    have ui:Hid (∀j(hj:j<nm.length),j<k+1→nm[j]≠x):=fun j hj h e=>by
     by_cases hjk:j<k
     ·exact HK.out j hj hjk e
     ·obtain rfl:j=k:=by omega
      exact he (by rw[←HY.out,e];exact HX.out)
    go_wp2
    go_roundw
    case rel=>exact⟨k+1,by omega,by go_num,ui,by first|trivial|rfl⟩
    case measure=>simp[intOf];omega
  ·obtain rfl:k=n:=by omega
   have HR:Hid (r=-1):=HI2.out fun i hi=>HK.out i hi (by have:=HN.out;omega)
   clear HI1 HI2 HC HK HJ
   go_wp2
   go_ret
   exact⟨by rw[HR.out];rfl,rfl⟩
end Go.Proofs.YtgbkolonhddolaaGreatDoor.prs
namespace Go.Proofs.YtgbkolonhddolaaGreatDoor.prs
open Go.RowKit nod tok
open rng(R RV info_parts)
open lin(BA)
theorem uf{n:List UInt8}(h:n≠[]):(BA n).toList.isEmpty=false:=by
 rw[Lib.toList_data]
 show n.isEmpty=false
 cases n with
 |nil=>exact absurd rfl h
 |cons a l=>rfl
variable[gh:Gh]
theorem Sx.names{K B:Nat}{w:World}{pb s bl cl bv cv nv}(h:Sx K B w pb s bl cl bv cv nv)(hK:K≤100000):∃na n nc,nv=.slice na n nc∧s.nm.length=n∧n≤100000∧∀w',Below w.heap.size w w'→w'.ownsRow B 9 1 (.slice na n nc) n (s.nm.map sN)∧w'.cell? ⟨pb,3,none⟩=some (.slice na n nc):=by
 have hno:=h.px.no
 obtain⟨na,nc,rfl⟩:=cZ hno
 have:=h.ln
 exact⟨na,_,nc,rfl,rfl,by omega,fun w' hb=>⟨rng.own_below' hno hb,(h.px.blk.on hb).cell 3 rfl⟩⟩
theorem tN{KK B:Nat}{w:World}{pb nx d0 bs' cs nm b bl cl bv cv nv}(t:Tk)(ht:tV t)(h:Sx KK B w pb ⟨nx,d0::bs',cs,nm⟩ (b::bl) cl bv cv nv)(hKb:KK≤100000):
  Calls Tryz.prog 30 #[.pointer (some ⟨pb,0,none⟩),oO t] w fun e w'=>Ok (KK+1) B pb w (dP ⟨nx,d0::bs',cs,nm⟩ t) e w':=by
 have fF:=h.base
 have Eu:=h.px.pB
 obtain⟨Z,hZ⟩:∃Z,backK ⟨nx,d0::bs',cs,nm⟩ t=Z:=⟨_,rfl⟩
 have HST:Hid (dP ⟨nx,d0::bs',cs,nm⟩ t=if Z<1∨(nm.length:Int)<Z then .error 151 else .ok ⟨nx,eQ (nd 13 0 Z 0 false [] []) d0::bs',cs,nm⟩):=by unfold Hid dP;rw[hZ];rfl
 have HZI:Hid (dQ Z):=by
  unfold Hid
  rw[←hZ]
  unfold backK
  split
  ·split
   ·rename_i i hi
    have h1:=(List.findIdx?_eq_some_iff_getElem.1 hi).1
    have h2:=h.ln
    simp only at h1 h2
    exact⟨by omega,by omega⟩
   ·exact ai 0 (by decide)
  ·exact ht.a
 have HZ:Hid (backK ⟨nx,d0::bs',cs,nm⟩ t=Z):=hZ
 obtain⟨tk,tm,ta,tb,tn,tg,ts,te⟩:=t
 unfold oO
 simp only at HST HZ⊢
 have HZ1:Hid (tn=[]→Z=ta):=fun e=>by rw[←HZ.out];unfold backK;rw[if_neg (by simpa using e)]
 have HZ2:Hid (tn≠[]→Z=idxN nm tn+1):=fun e=>by
  rw[←HZ.out]
  unfold backK idxN
  rw[if_pos e]
  simp only
  cases nm.findIdx? (·==tn)<;>rfl
 have B1:Below w.heap.size w (w.alloc (.cells #[.int .i64 tk,.int .i64 tm,.int .i64 ta,.int .i64 tb,.string (BA tn),.bool tg,.int .i64 ts,.int .i64 te] 66)):=(Below.refl _ w).alloc (Nat.le_refl _) _
 have TB:Bk (w.alloc (.cells #[.int .i64 tk,.int .i64 tm,.int .i64 ta,.int .i64 tb,.string (BA tn),.bool tg,.int .i64 ts,.int .i64 te] 66)) w.heap.size #[.int .i64 tk,.int .i64 tm,.int .i64 ta,.int .i64 tb,.string (BA tn),.bool tg,.int .i64 ts,.int .i64 te] 66:=Bk.new w _ _
 obtain⟨w1,hw1⟩:∃w1,w.alloc (.cells #[.int .i64 tk,.int .i64 tm,.int .i64 ta,.int .i64 tb,.string (BA tn),.bool tg,.int .i64 ts,.int .i64 te] 66)=w1:=⟨_,rfl⟩
 have HW1:=Ex hw1
 rw[hw1]at B1 TB
 have h1:=h.below B1
 have HH:=Ex h1
 obtain⟨na,n,nc,hnv,hnn,hn,hno⟩:=h1.names hKb
 simp only at hnn hno
 have ru:Hid (∀w',Below w1.heap.size w1 w'→_):=hno
 have IM:Hid (nm.length=n):=hnn
 obtain⟨g,cap,hbv,Cy⟩:=h1.xO hKb
 have wG:=Ex hbv
 have nP:Hid (∀w',Below w1.heap.size w1 w'→_):=Cy
 have uj:Hid (Below B w w1):=ae B1 fF
 have uG:B≤w1.heap.size:=Nat.le_trans fF B1.size
 have kN:Hid (∀w',Below w1.heap.size w1 w'→Calls Tryz.prog 43 #[.slice na n nc,.string (BA tn)] w' fun e w''=>e=.returned (.int .i64 (idxN nm tn))∧w''=w'):=fun w' hb=>vM tn (hno w' hb).1 hnn (by omega)
 have HTE:Hid (tn=[]→BA tn=⟨#[]⟩):=fun e=>by rw[e];rfl
 have HTN:Hid (tn≠[]→(BA tn).toList.isEmpty=false):=uf
 obtain⟨ix,hix⟩:∃ix,idxN nm tn=ix:=⟨_,rfl⟩
 rw[hix]at HZ2 kN
 have HIX:Hid (dQ (ix+1)):=by
  unfold Hid
  rw[←hix]
  unfold idxN
  split
  ·rename_i i hi
   have h1:=(List.findIdx?_eq_some_iff_getElem.1 hi).1
   exact⟨by omega,by omega⟩
  ·exact ai _ (by decide)
 obtain⟨X,hX⟩:∃X,BA tn=X:=⟨_,rfl⟩
 rw[hX]at HW1 TB kN HTE HTN⊢
 have eZ:=Ex TB
 have TAIL:Hid (∀w2,Below w1.heap.size w1 w2→Z<1∨(n:Int)<Z→Ok (KK+1) B pb w (dP ⟨nx,d0::bs',cs,nm⟩ ⟨tk,tm,ta,tb,tn,tg,ts,te⟩) (.returned (.int .i64 151)) w2):=fun w2 hb hz=>⟨uj.out.trans (ae hb uG),.inl ⟨151,by rw[HST.out,IM.out,if_pos hz],rfl,(HH.out.below hb).px.gh⟩⟩
 have qE:Hid (∀w2,Below w1.heap.size w1 w2→¬(Z<1∨(n:Int)<Z)→∀w5,Below w2.heap.size w2 w5→Calls Tryz.prog 32 #[.pointer (some ⟨g,bl.length*10,none⟩),.agg #[.int .i64 13,.int .i64 0,.int .i64 Z,.int .i64 0,.bool false,.string ⟨#[]⟩,.slice none 0 0,.slice none 0 0]] w5 fun e w'=>e=.returned (.tuple #[])∧Hid (Ok (KK+1) B pb w (dP ⟨nx,d0::bs',cs,nm⟩ ⟨tk,tm,ta,tb,tn,tg,ts,te⟩) (.returned (.int .i64 0)) w')):=fun w2 hb hz w5 hb5=>by
  have Cz:Below w1.heap.size w1 w5:=hb.trans (ae hb5 hb.size)
  have hS5:=HH.out.below Cz
  rw[wG.out]at hS5
  refine(EH 13 0 Z 0 false ⟨#[]⟩ none 0 0 hS5 (iH ⟨ai _ (by decide),ai _ (by decide),HZI.out,ai _ (by decide)⟩ (by decide)) hKb).mono ?_
  rintro e w'⟨rfl,hb',s1,hS'⟩
  exact⟨rfl,(uj.out.trans (ae Cz uG)).trans hb',.inr ⟨_,by rw[HST.out,IM.out,if_neg hz],rfl,_,_,_,_,_,hS'⟩⟩
 have c2:=eZ.out.cell 2 (u:=.int .i64 ta) rfl
 have c4:=eZ.out.cell 4 (u:=.string X) rfl
 clear hw1 B1 TB h h1 hnv hnn hno hbv Cy ht hix hX hZ HZ HST HH
 by_cases hemp:tn=[]
 ·have hZa:=(HZ1.out hemp).symm
  subst hZa
  have hXe:=HTE.out hemp
  subst hXe
  have x3:=(ru.out w1 (Below.refl _ _)).2
  clear hemp HZ1 HZ2 HTE HTN kN HIX ru
  go_enter Tryz.func30,Tryz.ntmps30
  go_upto_region 1 with fail
  rw[HW1.out]
  clear HW1
  by_cases hz1:ta<1
  ·have HE:Hid (Ok (KK+1) B pb w (dP ⟨nx,d0::bs',cs,nm⟩ ⟨tk,tm,ta,tb,tn,tg,ts,te⟩) (.returned (.int .i64 151)) w1):=TAIL.out w1 (Below.refl _ _) (.inl hz1)
   have d1:decide (ta<1)=true:=decide_eq_true hz1
   clear TAIL qE nP
   go_wp2
   go_ret
   exact HE.out
  ·have d1:decide (ta<1)=false:=decide_eq_false hz1
   by_cases hz2:(n:Int)<ta
   ·have HE:Hid (Ok (KK+1) B pb w (dP ⟨nx,d0::bs',cs,nm⟩ ⟨tk,tm,ta,tb,tn,tg,ts,te⟩) (.returned (.int .i64 151)) w1):=TAIL.out w1 (Below.refl _ _) (.inr hz2)
    have d2:decide ((n:Int)<ta)=true:=decide_eq_true hz2
    clear TAIL qE nP
    go_wp2
    go_ret
    exact HE.out
   ·have qZ:Hid _:=qE.out w1 (Below.refl _ _) (fun h=>h.elim hz1 hz2)
    have d2:decide ((n:Int)<ta)=false:=decide_eq_false hz2
    have CB:=nP.out w1 (Below.refl _ _)
    clear TAIL qE nP
    go_wp2_with fail
    refine CB.mono ?_
    rintro e w5⟨rfl,hb5⟩
    clear CB
    go_wp2_with fail
    refine(qZ.out w5 hb5).mono ?_
    rintro e w6⟨rfl,Mi⟩
    clear hb5
    go_wp2
    go_ret
    exact Mi.out
 ·have hXn:=HTN.out hemp
  have hZi:=HZ2.out hemp
  have x3:=(ru.out w1 (Below.refl _ _)).2
  have CX:=kN.out w1.drew (Below.refl _ _).drew
  have w64:IntKind.i64.wrap (ix+1)=ix+1:=wrap64 _ HIX.out.1 HIX.out.2
  have HZI2:Hid (Z=ix+1):=hZi
  clear hemp HZ1 HZ2 HTE HTN HIX hZi
  go_enter Tryz.func30,Tryz.ntmps30
  go_upto_region 1 with fail
  rw[HW1.out]
  clear HW1
  go_upto_region 3 with fail
  refine UK.begin 6 (fun w'=>w'.cell? ⟨pb,3,none⟩=some (.slice na n nc)∧w'.cell? ⟨w.heap.size,4,none⟩=some (.string X)) (by kernel_rfl) ⟨x3,c4⟩ (fun hHeld=>?_)
  iterate 3
   refine UK.pure (v:=?_) rfl (by kernel_rfl) (fun _ _ _ h=>h) (by rfl) ?_ (by assumption) ?_
   rotate_left
   ·(intro w' hSw;(try dsimp only at hSw);go_simp;try with_reducible rfl)
   try simp only[Act.put,lin.sm]
  refine UK.take (v:=?_) rfl (by kernel_rfl) (fun _ _ _ h=>h) (by rfl) ?_ (by assumption) ?_
  rotate_left
  ·(intro w' hSw;(try dsimp only at hSw);go_simp;try with_reducible rfl)
  try simp only[Act.put,lin.sm]
  refine UK.pure (v:=?_) rfl (by kernel_rfl) (fun _ _ _ h=>h) (by rfl) ?_ (by assumption) ?_
  rotate_left
  ·(intro w' hSw;(try dsimp only at hSw);go_simp;try with_reducible rfl)
  try simp only[Act.put,lin.sm]
  refine UK.take (v:=?_) rfl (by kernel_rfl) (fun _ _ _ h=>h) (by rfl) ?_ (by assumption) ?_
  rotate_left
  ·(intro w' hSw;(try dsimp only at hSw);go_simp;try with_reducible rfl)
  try simp only[Act.put,lin.sm]
  refine UK.last (by kernel_rfl) rfl (fun K hK=>?_)
  go_simp
  refine CX.mono ?_
  rintro e w2⟨rfl,hw2⟩
  obtain rfl:=hw2.symm
  clear CX
  refine hK.out _ _ ?_
  clear hK K
  try simp only[Act.put,lin.sm]
  have hHeld:=True.intro
  iterate 2
   refine lin.UH.take (v:=?_) rfl (by kernel_rfl) (fun _ _ _ h=>h) (by rfl) ?_ (by assumption) ?_
   rotate_left
   ·(intro w' hSw;(try dsimp only at hSw);go_simp;try with_reducible rfl)
   try simp only[Act.put,lin.sm]
  refine lin.UH.fin (by kernel_rfl) ?_
  rw[←HZI2.out]
  have x3:=(ru.out w1.drew (Below.refl _ _).drew).2
  have hD:Below w1.heap.size w1 w1.drew:=(Below.refl _ _).drew
  have HDD:Hid _:=hD
  clear hHeld c2 c4 w64 HZI2 ru hD
  generalize hw2:w1.drew=w2 at*
  have xZ:Hid (Below w1.heap.size w1 w2):=HDD.out
  by_cases hz1:Z<1
  ·have HE:Hid (Ok (KK+1) B pb w (dP ⟨nx,d0::bs',cs,nm⟩ ⟨tk,tm,ta,tb,tn,tg,ts,te⟩) (.returned (.int .i64 151)) w2):=TAIL.out w2 xZ.out (.inl hz1)
   have d1:decide (Z<1)=true:=decide_eq_true hz1
   clear TAIL qE nP
   go_wp2
   go_ret
   exact HE.out
  ·have d1:decide (Z<1)=false:=decide_eq_false hz1
   by_cases hz2:(n:Int)<Z
   ·have HE:Hid (Ok (KK+1) B pb w (dP ⟨nx,d0::bs',cs,nm⟩ ⟨tk,tm,ta,tb,tn,tg,ts,te⟩) (.returned (.int .i64 151)) w2):=TAIL.out w2 xZ.out (.inr hz2)
    have d2:decide ((n:Int)<Z)=true:=decide_eq_true hz2
    clear TAIL qE nP
    go_wp2
    go_ret
    exact HE.out
   ·have qZ:Hid _:=qE.out w2 xZ.out (fun h=>h.elim hz1 hz2)
    have d2:decide ((n:Int)<Z)=false:=decide_eq_false hz2
    have CB:=nP.out w2 xZ.out
    clear TAIL qE nP
    go_wp2_with fail
    refine CB.mono ?_
    rintro e w5⟨rfl,hb5⟩
    clear CB
    go_wp2_with fail
    refine(qZ.out w5 hb5).mono ?_
    rintro e w6⟨rfl,Mi⟩
    clear hb5
    go_wp2
    go_ret
    exact Mi.out
end Go.Proofs.YtgbkolonhddolaaGreatDoor.prs
