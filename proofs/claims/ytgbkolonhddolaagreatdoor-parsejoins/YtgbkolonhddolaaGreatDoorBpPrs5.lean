import Derived.Test.YtgbkolonhddolaaGreatDoorBpPrs4
set_option linter.unusedSectionVars false
set_option linter.unusedSimpArgs false
set_option linter.unusedVariables false
set_option maxRecDepth 100000
set_option maxHeartbeats 4000000
theorem Go.Proofs.YtgbkolonhddolaaGreatDoor.hd22{p:Prop}(h:p):Go.RowKit.Hid p:=h
namespace Go.Proofs.YtgbkolonhddolaaGreatDoor.prs
open Go.RowKit nod tok
open rng(R RV info_parts)
open lin(BA)
theorem jk{B:Nat}{w:World}{r:Lr}{rs:List Lr}:∀k,Dd B w (r::rs) k→Dd B w rs k:=fun k hk=>⟨hk.1,fun q hq=>hk.2 q (by simp[hq])⟩
theorem tq{B:Nat}{w:World}{rs:List Lr}:∀k,Dd B w rs k→Dd B w ((.slice none 0 0,[])::rs) k:=fun k hk=>⟨hk.1,fun q hq=>by
 rcases List.mem_cons.1 hq with rfl|hq
 ·intro e;cases e
 ·exact hk.2 q hq⟩
theorem gu{B:Nat}{w:World}{rs rs':List Lr}(h:rs.Perm rs'):∀k,Dd B w rs k→Dd B w rs' k:=fun k hk=>⟨hk.1,fun q hq=>hk.2 q (h.mem_iff.2 hq)⟩
variable[gh:Gh]
theorem Sx.LM{K B:Nat}{w wA w5:World}{pb nx d bs' cs nm b bl cl cv nv}{g cap o g5 n c:Nat}{xs:List Nv}{p0:Option Addr}{p1 p2:Nat}(h:Sx K B w pb ⟨nx,d::bs',cs,nm⟩ (b::bl) cl (.slice (some ⟨g,0,none⟩) (bl.length+1) cap) cv nv)
  (hA:Below w.heap.size w wA)(hr:RN (Dd B w (rowsOf (b::bl) (d::bs') cl cs)) w xs d.dH)(hn:d.dH.length=n)(hpt:b.pt=(p0,p1,p2))
  (h5:w5.ownsRow B 26 8 (.slice (some ⟨g5,0,none⟩) (n+1) c) (n+1) (bI xs++c8 z0))(hg:wA.grownBy w5 (Value.slice b.ah.1 b.ah.2.1 b.ah.2.2).ownBlock)(hat:(Value.slice b.ah.1 b.ah.2.1 b.ah.2.2).ownBlock=some g5∨g5=wA.heap.size)(ho:bl.length*10=o):
  (Sx (K+1) B (((aC w5 g5 (n*8) ⟨6,0,0,0,false,⟨#[]⟩,p0,p1,p2⟩).setCell ⟨g,o+8,none⟩ (.slice (some ⟨g5,0,none⟩) (n+1) c)).setCell ⟨g,o+9,none⟩ (.slice none 0 0)) pb ⟨nx,kW d::bs',cs,nm⟩ ({b with ah:=(some ⟨g5,0,none⟩,n+1,c),pt:=(none,0,0)}::bl) cl (.slice (some ⟨g,0,none⟩) (bl.length+1) cap) cv nv∧
  Below B w (((aC w5 g5 (n*8) ⟨6,0,0,0,false,⟨#[]⟩,p0,p1,p2⟩).setCell ⟨g,o+8,none⟩ (.slice (some ⟨g5,0,none⟩) (n+1) c)).setCell ⟨g,o+9,none⟩ (.slice none 0 0)))∧
  (∀j u,(c8 z0)[j]?=some u→w5.cell? ⟨g5,n*8+j,none⟩=some u)∧(∀j,w5.frozen? ⟨g5,j,none⟩=false)∧
  ((aC w5 g5 (n*8) ⟨6,0,0,0,false,⟨#[]⟩,p0,p1,p2⟩).cell? ⟨g,o+8,none⟩=some (.slice b.ah.1 b.ah.2.1 b.ah.2.2)∧(aC w5 g5 (n*8) ⟨6,0,0,0,false,⟨#[]⟩,p0,p1,p2⟩).frozen? ⟨g,o+8,none⟩=false∧w5.cell? ⟨g,o+8,none⟩=some (.slice b.ah.1 b.ah.2.1 b.ah.2.2)∧w5.frozen? ⟨g,o+8,none⟩=false)∧
  ((((aC w5 g5 (n*8) ⟨6,0,0,0,false,⟨#[]⟩,p0,p1,p2⟩).setCell ⟨g,o+8,none⟩ (.slice (some ⟨g5,0,none⟩) (n+1) c)).cell? ⟨g,o+9,none⟩=some (.slice p0 p1 p2))∧((aC w5 g5 (n*8) ⟨6,0,0,0,false,⟨#[]⟩,p0,p1,p2⟩).setCell ⟨g,o+8,none⟩ (.slice (some ⟨g5,0,none⟩) (n+1) c)).frozen? ⟨g,o+9,none⟩=false)∧g≠g5:=by
 subst ho
 obtain⟨ys,h0,_⟩:=h.rows.each (.slice b.ah.1 b.ah.2.1 b.ah.2.2,d.dH) (by simp[rowsOf,rowsB])
 simp only[hn]at h0
 obtain⟨o8,KH,hN,hc,hf⟩:=grew ⟨6,0,0,0,false,⟨#[]⟩,p0,p1,p2⟩ hA h0 (hr.1.trans hn) h5 hg hat
 have hpx:=(h.px.below hA).grown KH hN
 obtain⟨g',cap',e,hBg,hgl,_,_,hcell,hfro⟩:=hpx.body
 simp only[Value.slice.injEq,Option.some.injEq,Addr.mk.injEq,and_true,true_and]at e
 obtain⟨rfl,rfl⟩:=e
 have KF:=(h.px.below hA).grown hg hN
 obtain⟨g',cap',e,_,_,_,_,hcell',zO⟩:=KF.body
 simp only[Value.slice.injEq,Option.some.injEq,Addr.mk.injEq,and_true,true_and]at e
 obtain⟨rfl,rfl⟩:=e
 obtain⟨hp2,hu2⟩:=hpx.rM {b with ah:=(some ⟨g5,0,none⟩,n+1,c)} 8 _ (.slice (some ⟨g5,0,none⟩) (n+1) c) rfl rfl
 obtain⟨g',cap',e,_,_,_,_,hcell2,hfro2⟩:=hp2.body
 simp only[Value.slice.injEq,Option.some.injEq,Addr.mk.injEq,and_true,true_and]at e
 obtain⟨rfl,rfl⟩:=e
 obtain⟨hp3,hu3⟩:=hp2.rM {b with ah:=(some ⟨g5,0,none⟩,n+1,c),pt:=(none,0,0)} 9 _ (.slice none 0 0) rfl rfl
 have hat':(Value.slice (some ⟨g5,0,none⟩) (n+1) c).ownBlock=(Value.slice b.ah.1 b.ah.2.1 b.ah.2.2).ownBlock∨∀y,(Value.slice (some ⟨g5,0,none⟩) (n+1) c).ownBlock=some y→w.heap.size≤y:=by
  rcases hat with e|e
  ·exact .inl e.symm
  ·exact .inr fun y e'=>by
    have:=Option.some.inj e'
    have:=hA.size
    simp only at*
    omega
 have hl1:(kW d).dH.length=n+1:=by simp[kW,hn]
 have hsw:(rowsOf (b::bl) (d::bs') cl cs).Perm ((.slice b.pt.1 b.pt.2.1 b.pt.2.2,d.pts)::(.slice b.ah.1 b.ah.2.1 b.ah.2.2,d.dH)::rowsOf bl bs' cl cs):=List.Perm.swap _ _ _
 have hR:=h.rows.perm hsw
 have hl2:=hR.len
 rw[hpt]at hR hsw hl2
 have hseq:Fz (Dd B w ((.slice b.ah.1 b.ah.2.1 b.ah.2.2,d.dH)::rowsOf bl bs' cl cs)) w (eB d.pts) (a8 ⟨6,0,0,0,false,⟨#[]⟩,p0,p1,p2⟩):=hR.shut ⟨ai _ (by decide),ai _ (by decide),ai _ (by decide),ai _ (by decide)⟩ (by decide) hl2.1
 have hm:∀k,Dd B w (rowsOf (b::bl) (d::bs') cl cs) k→Dd B w ((.slice b.ah.1 b.ah.2.1 b.ah.2.2,d.dH)::rowsOf bl bs' cl cs) k:=fun k hk=>jk k (gu hsw k hk)
 obtain⟨hrw,hfz⟩:=hR.tail.mH (rs':=(.slice (some ⟨g5,0,none⟩) (n+1) c,d.dH++[eB d.pts])::rowsOf bl bs' cl cs) (List.Perm.refl _) (List.Perm.refl _) ((NU.of_below hA).trans (NU.aF KH)) hat' (by rw[List.length_append,hn];exact o8) ((hr.imp fun t v f=>f.mono hm).snoc hseq)
 have GR:((.slice none 0 0,[])::(.slice (some ⟨g5,0,none⟩) (n+1) c,d.dH++[eB d.pts])::rowsOf bl bs' cl cs:List Lr).Perm (rowsOf ({b with ah:=(some ⟨g5,0,none⟩,n+1,c),pt:=(none,0,0)}::bl) (kW d::bs') cl cs):=List.Perm.swap _ _ _
 refine⟨⟨⟨hp3,?_,h.cx.imp fun t u f=>(((hfz t u (f.mono hm)).nu hu2).nu hu3).mono fun k hk=>gu GR k (tq k hk),(((hrw.nu hu2).nu hu3).Ch).perm GR,by have:=h.lb;simp only[List.length_cons]at*;omega,by have:=h.lc;omega,by have:=h.ln;simp only at*;omega,fun r hr=>?_⟩,?_⟩,hc,hf,⟨hcell 8 _ rfl,hfro _,hcell' 8 _ rfl,zO _⟩,⟨?_,hfro2 _⟩,?_⟩
 ·cases h.br with
  |cons _ _ _ _ e hi hn' hr=>exact .cons _ _ _ _ e hi hn' hr
 ·have hlr:∀q∈rowsOf (b::bl) (d::bs') cl cs,q.2.length≤K:=h.lr
  simp only[rowsOf,rowsB,List.cons_append,List.mem_cons]at hr hlr
  rcases hr with rfl|rfl|hr
  ·have:=hlr _ (.inl rfl);rw[hl1];simp only[hn]at this;omega
  ·simp[kW]
  ·have:=hlr r (.inr (.inr hr));omega
 ·have fF:B≤w.heap.size:=by
   obtain⟨g',cap',e,hBg,hgl,_⟩:=h.px.body
   omega
  exact((((ae hA fF).trans (Below.aF KH (by have:=hA.size;omega) fun k e=>(h0.lt k e).1)).setCell (by exact hBg) _)).setCell (by exact hBg) _
 ·have:=hcell2 9 _ rfl
  rw[hpt]at this
  exact this
 ·rintro rfl
  exact bT hpx.bo (by decide) rfl (lh.own o8 rfl)
theorem bar_any{K B:Nat}{w:World}{pb nx d bs' cs nm b bl cl cv nv}{g cap:Nat}(h:Sx K B w pb ⟨nx,d::bs',cs,nm⟩ (b::bl) cl (.slice (some ⟨g,0,none⟩) (bl.length+1) cap) cv nv)(hKb:K≤100000):
  Calls Tryz.prog 28 #[.pointer (some ⟨g,bl.length*10,none⟩)] w fun e w'=>e=.returned (.tuple #[])∧Below B w w'∧
   ∃b',Sx (K+1) B w' pb ⟨nx,kW d::bs',cs,nm⟩ (b'::bl) cl (.slice (some ⟨g,0,none⟩) (bl.length+1) cap) cv nv:=by
 obtain⟨i0,hi,hz0,hz1,hz2⟩:=info_parts ow
 obtain⟨g',cap',e,hBg,hgl,_,_,hcell,hfro⟩:=h.px.body
 simp only[Value.slice.injEq,Option.some.injEq,Addr.mk.injEq,and_true,true_and]at e
 obtain⟨rfl,rfl⟩:=e
 obtain⟨xs,hown,hrn⟩:=h.rows.each (.slice b.ah.1 b.ah.2.1 b.ah.2.2,d.dH) (by simp[rowsOf,rowsB])
 have hlen:=h.lr (.slice b.ah.1 b.ah.2.1 b.ah.2.2,d.dH) (by simp[rowsOf,rowsB])
 obtain⟨n,hn⟩:∃n,d.dH.length=n:=⟨_,rfl⟩
 simp only[hn]at hown hlen
 have x8:=hcell 8 _ rfl
 have x9:=hcell 9 _ rfl
 have HH:=hd22 h
 have HR:=hd22 hrn
 have HN:Hid (d.dH.length=n):=hn
 obtain⟨o,ho⟩:∃o,bl.length*10=o:=⟨_,rfl⟩
 have HO:Hid (bl.length*10=o):=ho
 rw[ho]at x8 x9⊢
 obtain⟨⟨q0,q1,q2⟩,hah⟩:∃p,b.ah=p:=⟨_,rfl⟩
 obtain⟨⟨p0,p1,p2⟩,hpt⟩:∃p,b.pt=p:=⟨_,rfl⟩
 rw[hah]at hown x8
 rw[hpt]at x9
 obtain rfl:q1=n:=by
  rcases hown.2 with⟨e,h0⟩|⟨g1,c1,Lj,e,_⟩
  ·simp only[Value.slice.injEq]at e;omega
  ·simp only[Value.slice.injEq]at e;exact e.2.1
 have HAH:Hid (b.ah=(q0,q1,q2)):=hah
 have IK:Hid (b.pt=(p0,p1,p2)):=hpt
 have CS:=fun w'=>nW p0 p1 p2 w'
 simp only[a8]at CS
 have HOW:Hid (∀w',Below w.heap.size w w'→w'.ownsRow B 26 8 (.slice q0 q1 q2) q1 (bI xs)):=fun w' hb=>rng.own_below' hown hb
 have HX8:Hid (∀w',Below w.heap.size w w'→w'.cell? ⟨g,o+8,none⟩=some (.slice q0 q1 q2)∧w'.cell? ⟨g,o+9,none⟩=some (.slice p0 p1 p2)):=fun w' hb=>⟨(hb.cell (p:=⟨g,o+8,none⟩) hgl).trans x8,(hb.cell (p:=⟨g,o+9,none⟩) hgl).trans x9⟩
 have wI:Hid (q1+1≤maxLen):=by unfold Hid maxLen;omega
 have wF:Hid ((q1+1)*104≤140737488355328):=by unfold Hid;omega
 have HBs:Hid (B≤w.heap.size):=by unfold Hid;omega
 have HBD:Hid (Below w.heap.size w w.drew):=(Below.refl _ w).drew
 clear hown hrn hn hlen hcell hfro ho hah hpt h
 go_enter Tryz.func28,Tryz.ntmps28
 go_upto_region 0 with fail
 refine wp_region_noPanic ?_
 refine aZ 11 (fun w'=>w'.cell? ⟨g,o+8,none⟩=some (.slice q0 q1 q2)∧w'.cell? ⟨g,o+9,none⟩=some (.slice p0 p1 p2)) (by kernel_rfl) ⟨x8,x9⟩ (fun hHeld=>?_)
 refine gH 0 (v:=?_) rfl (by kernel_rfl) (fun _ _ _ h=>h) (by rfl) ?_ (by assumption) ?_
 rotate_left
 ·(intro w' hSw;(try dsimp only at hSw);go_simp;try with_reducible rfl)
 try simp only[Act.put,lin.sm]
 refine gH 1 (v:=?_) rfl (by kernel_rfl) (fun _ _ _ h=>h) (by rfl) ?_ (by assumption) ?_
 rotate_left
 ·(intro w' hSw;(try dsimp only at hSw);go_simp;try with_reducible rfl)
 try simp only[Act.put,lin.sm]
 refine gH 2 (v:=?_) rfl (by kernel_rfl) (fun _ _ _ h=>h) (by rfl) ?_ (by assumption) ?_
 rotate_left
 ·(intro w' hSw;(try dsimp only at hSw);go_simp;try with_reducible rfl)
 try simp only[Act.put,lin.sm]
 refine gH 3 (v:=?_) rfl (by kernel_rfl) (fun _ _ _ h=>h) (by rfl) ?_ (by assumption) ?_
 rotate_left
 ·(intro w' hSw;(try dsimp only at hSw);go_simp;try with_reducible rfl)
 try simp only[Act.put,lin.sm]
 refine gH 4 (v:=?_) rfl (by kernel_rfl) (fun _ _ _ h=>h) (by rfl) ?_ (by assumption) ?_
 rotate_left
 ·(intro w' hSw;(try dsimp only at hSw);go_simp;try with_reducible rfl)
 try simp only[Act.put,lin.sm]
 refine gH 5 (v:=?_) rfl (by kernel_rfl) (fun _ _ _ h=>h) (by rfl) ?_ (by assumption) ?_
 rotate_left
 ·(intro w' hSw;(try dsimp only at hSw);go_simp;try with_reducible rfl)
 try simp only[Act.put,lin.sm]
 refine gH 6 (v:=?_) rfl (by kernel_rfl) (fun _ _ _ h=>h) (by rfl) ?_ (by assumption) ?_
 rotate_left
 ·(intro w' hSw;(try dsimp only at hSw);go_simp;try with_reducible rfl)
 try simp only[Act.put,lin.sm]
 refine gH 7 (v:=?_) rfl (by kernel_rfl) (fun _ _ _ h=>h) (by rfl) ?_ (by assumption) ?_
 rotate_left
 ·(intro w' hSw;(try dsimp only at hSw);go_simp;try with_reducible rfl)
 try simp only[Act.put,lin.sm]
 refine gH 9 (v:=?_) rfl (by kernel_rfl) (fun _ _ _ h=>h) (by rfl) ?_ (by assumption) ?_
 rotate_left
 ·(intro w' hSw;(try dsimp only at hSw);go_simp;try with_reducible rfl)
 try simp only[Act.put,lin.sm]
 refine Be (i:=8) (j:=10) (by kernel_rfl) (by decide) (by decide) rfl rfl (fun K hK=>?_) (fun K hK=>?_)
 ·go_simp
  refine(CS w.drew).mono ?_
  rintro e w2⟨rfl,hb2⟩
  have HB2:Hid (Below w.heap.size w w2):=HBD.out.trans hb2
  clear hb2
  refine hK.out _ _ (HX8.out _ HB2.out) (fun hHeld=>?_)
  clear hK K
  try simp only[Act.put,lin.sm]
  have HBA':Hid (Below w.heap.size w (w2.alloc (.cells #[.int .i64 0,.int .i64 0,.int .i64 0,.int .i64 0,.bool false,.string ⟨#[]⟩,.slice none 0 0,.slice none 0 0] 26))):=HB2.out.alloc HB2.out.size _
  have AQ:Hid (Bk (w2.alloc (.cells #[.int .i64 0,.int .i64 0,.int .i64 0,.int .i64 0,.bool false,.string ⟨#[]⟩,.slice none 0 0,.slice none 0 0] 26)) w2.heap.size #[.int .i64 0,.int .i64 0,.int .i64 0,.int .i64 0,.bool false,.string ⟨#[]⟩,.slice none 0 0,.slice none 0 0] 26):=Bk.new w2 _ _
  refine aG (j:=10) (by kernel_rfl) (by decide) rfl (fun K hK=>?_)
  go_simp
  refine hK.out _ _ ?_ (fun hHeld=>?_)
  ·exact HX8.out _ HBA'.out
  clear hK K
  try simp only[Act.put,lin.sm]
  obtain⟨wA,hwA⟩:∃wA,w2.alloc (.cells #[.int .i64 0,.int .i64 0,.int .i64 0,.int .i64 0,.bool false,.string ⟨#[]⟩,.slice none 0 0,.slice none 0 0] 26)=wA:=⟨_,rfl⟩
  obtain⟨q,hq⟩:∃q,w2.heap.size=q:=⟨_,rfl⟩
  rw[hwA]at HBA' AQ hHeld⊢
  rw[hq]at AQ⊢
  have nP:Hid (Below w.heap.size w wA):=HBA'
  have HZB:Hid (Bk wA q #[.int .i64 0,.int .i64 0,.int .i64 0,.int .i64 0,.bool false,.string ⟨#[]⟩,.slice none 0 0,.slice none 0 0] 26):=AQ
  clear HBA' AQ hwA
  have yB:Hid (∀(j:Nat)u,(c8 z0)[j]?=some u→wA.cell? ((⟨q,0,none⟩:Addr).add j)=some u):=fun j u hj=>by
   rw[Addr.add_lit]
   have:=HZB.out.cell j (u:=u) (by simpa[c8,z0]using hj)
   simpa using this
  refine aU (by kernel_rfl) rfl (fun K hK=>?_)
  refine step_append_lies _ rfl _ _ 24 rfl B 26 i0 (.agg #[.int .i64 0,.int .i64 0,.int .i64 0,.int .i64 0,.bool false,.string ⟨#[]⟩,.slice none 0 0,.slice none 0 0]) 8 104 Tryz.underlying24 hi hz0 hz1 hz2 rfl (by decide) (.slice q0 q1 q2) q1 (bI xs) (by simp[Act.eval,Act.put]) (HOW.out _ nP.out) ⟨q,0,none⟩ 1 1 (c8 z0) (by simp[Act.eval,Act.put]) rfl yB.out (tK z0) (by decide) wI.out wF.out (Nat.le_trans HBs.out nP.out.size) _ rfl ?_
  intro g5 c5 w5 hown5 bQ kU Ct
  obtain⟨HD,hc,hf,⟨q8,r8,q8',r8'⟩,⟨u9,s9⟩,hne⟩:=HH.out.LM nP.out HR.out HN.out IK.out hown5 (by rw[HAH.out];exact bQ) (by rw[HAH.out];exact kU) HO.out
  rw[HAH.out]at q8 q8'
  have xW:Hid (_∧_):=HD
  clear hown5 bQ kU HD
  have y0:=hc 0 _ rfl
  have y1:=hc 1 _ rfl
  have y2:=hc 2 _ rfl
  have y3:=hc 3 _ rfl
  have y4:=hc 4 _ rfl
  have y5:=hc 5 _ rfl
  have y6:=hc 6 _ rfl
  have y7:=hc 7 _ rfl
  have v0:=hf (q1*8+0)
  have v1:=hf (q1*8+1)
  have v2:=hf (q1*8+2)
  have v3:=hf (q1*8+3)
  have v4:=hf (q1*8+4)
  have v5:=hf (q1*8+5)
  have v6:=hf (q1*8+6)
  have v7:=hf (q1*8+7)
  simp only[Nat.add_zero]at y0 v0
  clear hc hf
  have hidx:((q1:Nat):Int)<(q1:Int)+1:=by omega
  have hne':=Ne.symm hne
  refine hK.out _ _ ?_
  clear hK K
  try simp only[Act.put,lin.sm]
  refine wpAny_of_held (S:=fun _=>True) _ _ _ _ ?_
  have hHeld:=True.intro
  refine lin.eT 12 (v:=?_) rfl (by kernel_rfl) (fun _ _ _ h=>h) (by rfl) ?_ (by assumption) ?_
  rotate_left
  ·(intro w' hSw;(try dsimp only at hSw);go_simp;try with_reducible rfl)
  try simp only[Act.put,lin.sm]
  refine lin.eT 14 (v:=?_) rfl (by kernel_rfl) (fun _ _ _ h=>h) (by rfl) ?_ (by assumption) ?_
  rotate_left
  ·(intro w' hSw;(try dsimp only at hSw);go_simp;try with_reducible rfl)
  try simp only[Act.put,lin.sm]
  refine lin.eT 15 (v:=?_) rfl (by kernel_rfl) (fun _ _ _ h=>h) (by rfl) ?_ (by assumption) ?_
  rotate_left
  ·(intro w' hSw;(try dsimp only at hSw);go_simp;try with_reducible rfl)
  try simp only[Act.put,lin.sm]
  refine wpAnyH_ready (rs:=[13,16]) (by kernel_rfl) (by simp) ?_
  refine AllReadyH.cons rfl (fun K hK=>?_) (AllReadyH.cons rfl (fun K hK=>?_) AllReadyH.nil)
  ·go_simp
   refine hK.out _ (aC w5 g5 (q1*8) ⟨6,0,0,0,false,⟨#[]⟩,p0,p1,p2⟩) True.intro (fun hHeld=>?_)
   clear hK K
   try simp only[Act.put,lin.sm]
   refine wpAnyH_ready (rs:=[16]) (by kernel_rfl) (by simp) ?_
   refine AllReadyH.cons rfl (fun K hK=>?_) AllReadyH.nil
   go_simp
   refine hK.out _ _ True.intro (fun hHeld=>?_)
   clear hK K
   try simp only[Act.put,lin.sm]
   refine wpAnyH_done (by kernel_rfl) ?_ _
   refine NoPanic.normal ?_
   generalize hW2:((aC w5 g5 (q1*8) ⟨6,0,0,0,false,⟨#[]⟩,p0,p1,p2⟩).setCell ⟨g,o+8,none⟩ (.slice (some ⟨g5,0,none⟩) (q1+1) c5))=W2 at*
   go_wp2
   go_end0
   exact⟨rfl,xW.out.2,_,xW.out.1⟩
  ·go_simp
   refine hK.out _ _ True.intro (fun hHeld=>?_)
   clear hK K
   try simp only[Act.put,lin.sm]
   refine wpAnyH_ready (rs:=[13]) (by kernel_rfl) (by simp) ?_
   refine AllReadyH.cons rfl (fun K hK=>?_) AllReadyH.nil
   go_simp
   refine hK.out _ (aC (w5.setCell ⟨g,o+8,none⟩ (.slice (some ⟨g5,0,none⟩) (q1+1) c5)) g5 (q1*8) ⟨6,0,0,0,false,⟨#[]⟩,p0,p1,p2⟩) True.intro (fun hHeld=>?_)
   clear hK K
   try simp only[Act.put,lin.sm]
   refine wpAnyH_done (by kernel_rfl) ?_ _
   refine NoPanic.normal ?_
   rw[mi _ _ _ _ _ _ _ hne]
   generalize hW2:((aC w5 g5 (q1*8) ⟨6,0,0,0,false,⟨#[]⟩,p0,p1,p2⟩).setCell ⟨g,o+8,none⟩ (.slice (some ⟨g5,0,none⟩) (q1+1) c5))=W2 at*
   go_wp2
   go_end0
   exact⟨rfl,xW.out.2,_,xW.out.1⟩
 ·have HBZ:Hid (Below w.heap.size w (w.drew.alloc (.cells #[.int .i64 0,.int .i64 0,.int .i64 0,.int .i64 0,.bool false,.string ⟨#[]⟩,.slice none 0 0,.slice none 0 0] 26))):=HBD.out.alloc (Nat.le_refl _) _
  have L9:Hid (Bk (w.drew.alloc (.cells #[.int .i64 0,.int .i64 0,.int .i64 0,.int .i64 0,.bool false,.string ⟨#[]⟩,.slice none 0 0,.slice none 0 0] 26)) w.heap.size #[.int .i64 0,.int .i64 0,.int .i64 0,.int .i64 0,.bool false,.string ⟨#[]⟩,.slice none 0 0,.slice none 0 0] 26):=Bk.new w.drew _ _
  go_simp
  refine hK.out _ _ (HX8.out _ HBZ.out) (fun hHeld=>?_)
  clear hK K
  try simp only[Act.put,lin.sm]
  refine aG (j:=8) (by kernel_rfl) (by decide) rfl (fun K hK=>?_)
  go_simp
  refine(CS _).mono ?_
  rintro e wA⟨rfl,hb2⟩
  have nP:Hid (Below w.heap.size w wA):=HBZ.out.trans (ae hb2 (by simp))
  have AQ:Hid (Bk wA w.heap.size #[.int .i64 0,.int .i64 0,.int .i64 0,.int .i64 0,.bool false,.string ⟨#[]⟩,.slice none 0 0,.slice none 0 0] 26):=L9.out.on hb2
  clear hb2
  refine hK.out _ _ (HX8.out _ nP.out) (fun hHeld=>?_)
  clear hK K
  try simp only[Act.put,lin.sm]
  obtain⟨q,hq⟩:∃q,w.heap.size=q:=⟨_,rfl⟩
  rw[hq]at AQ⊢
  have HZB:Hid (Bk wA q #[.int .i64 0,.int .i64 0,.int .i64 0,.int .i64 0,.bool false,.string ⟨#[]⟩,.slice none 0 0,.slice none 0 0] 26):=AQ
  clear AQ
  have yB:Hid (∀(j:Nat)u,(c8 z0)[j]?=some u→wA.cell? ((⟨q,0,none⟩:Addr).add j)=some u):=fun j u hj=>by
   rw[Addr.add_lit]
   have:=HZB.out.cell j (u:=u) (by simpa[c8,z0]using hj)
   simpa using this
  refine aU (by kernel_rfl) rfl (fun K hK=>?_)
  refine step_append_lies _ rfl _ _ 24 rfl B 26 i0 (.agg #[.int .i64 0,.int .i64 0,.int .i64 0,.int .i64 0,.bool false,.string ⟨#[]⟩,.slice none 0 0,.slice none 0 0]) 8 104 Tryz.underlying24 hi hz0 hz1 hz2 rfl (by decide) (.slice q0 q1 q2) q1 (bI xs) (by simp[Act.eval,Act.put]) (HOW.out _ nP.out) ⟨q,0,none⟩ 1 1 (c8 z0) (by simp[Act.eval,Act.put]) rfl yB.out (tK z0) (by decide) wI.out wF.out (Nat.le_trans HBs.out nP.out.size) _ rfl ?_
  intro g5 c5 w5 hown5 bQ kU Ct
  obtain⟨HD,hc,hf,⟨q8,r8,q8',r8'⟩,⟨u9,s9⟩,hne⟩:=HH.out.LM nP.out HR.out HN.out IK.out hown5 (by rw[HAH.out];exact bQ) (by rw[HAH.out];exact kU) HO.out
  rw[HAH.out]at q8 q8'
  have xW:Hid (_∧_):=HD
  clear hown5 bQ kU HD
  have y0:=hc 0 _ rfl
  have y1:=hc 1 _ rfl
  have y2:=hc 2 _ rfl
  have y3:=hc 3 _ rfl
  have y4:=hc 4 _ rfl
  have y5:=hc 5 _ rfl
  have y6:=hc 6 _ rfl
  have y7:=hc 7 _ rfl
  have v0:=hf (q1*8+0)
  have v1:=hf (q1*8+1)
  have v2:=hf (q1*8+2)
  have v3:=hf (q1*8+3)
  have v4:=hf (q1*8+4)
  have v5:=hf (q1*8+5)
  have v6:=hf (q1*8+6)
  have v7:=hf (q1*8+7)
  simp only[Nat.add_zero]at y0 v0
  clear hc hf
  have hidx:((q1:Nat):Int)<(q1:Int)+1:=by omega
  have hne':=Ne.symm hne
  refine hK.out _ _ ?_
  clear hK K
  try simp only[Act.put,lin.sm]
  refine wpAny_of_held (S:=fun _=>True) _ _ _ _ ?_
  have hHeld:=True.intro
  refine lin.eT 12 (v:=?_) rfl (by kernel_rfl) (fun _ _ _ h=>h) (by rfl) ?_ (by assumption) ?_
  rotate_left
  ·(intro w' hSw;(try dsimp only at hSw);go_simp;try with_reducible rfl)
  try simp only[Act.put,lin.sm]
  refine lin.eT 14 (v:=?_) rfl (by kernel_rfl) (fun _ _ _ h=>h) (by rfl) ?_ (by assumption) ?_
  rotate_left
  ·(intro w' hSw;(try dsimp only at hSw);go_simp;try with_reducible rfl)
  try simp only[Act.put,lin.sm]
  refine lin.eT 15 (v:=?_) rfl (by kernel_rfl) (fun _ _ _ h=>h) (by rfl) ?_ (by assumption) ?_
  rotate_left
  ·(intro w' hSw;(try dsimp only at hSw);go_simp;try with_reducible rfl)
  try simp only[Act.put,lin.sm]
  refine wpAnyH_ready (rs:=[13,16]) (by kernel_rfl) (by simp) ?_
  refine AllReadyH.cons rfl (fun K hK=>?_) (AllReadyH.cons rfl (fun K hK=>?_) AllReadyH.nil)
  ·go_simp
   refine hK.out _ (aC w5 g5 (q1*8) ⟨6,0,0,0,false,⟨#[]⟩,p0,p1,p2⟩) True.intro (fun hHeld=>?_)
   clear hK K
   try simp only[Act.put,lin.sm]
   refine wpAnyH_ready (rs:=[16]) (by kernel_rfl) (by simp) ?_
   refine AllReadyH.cons rfl (fun K hK=>?_) AllReadyH.nil
   go_simp
   refine hK.out _ _ True.intro (fun hHeld=>?_)
   clear hK K
   try simp only[Act.put,lin.sm]
   refine wpAnyH_done (by kernel_rfl) ?_ _
   refine NoPanic.normal ?_
   generalize hW2:((aC w5 g5 (q1*8) ⟨6,0,0,0,false,⟨#[]⟩,p0,p1,p2⟩).setCell ⟨g,o+8,none⟩ (.slice (some ⟨g5,0,none⟩) (q1+1) c5))=W2 at*
   go_wp2
   go_end0
   exact⟨rfl,xW.out.2,_,xW.out.1⟩
  ·go_simp
   refine hK.out _ _ True.intro (fun hHeld=>?_)
   clear hK K
   try simp only[Act.put,lin.sm]
   refine wpAnyH_ready (rs:=[13]) (by kernel_rfl) (by simp) ?_
   refine AllReadyH.cons rfl (fun K hK=>?_) AllReadyH.nil
   go_simp
   refine hK.out _ (aC (w5.setCell ⟨g,o+8,none⟩ (.slice (some ⟨g5,0,none⟩) (q1+1) c5)) g5 (q1*8) ⟨6,0,0,0,false,⟨#[]⟩,p0,p1,p2⟩) True.intro (fun hHeld=>?_)
   clear hK K
   try simp only[Act.put,lin.sm]
   refine wpAnyH_done (by kernel_rfl) ?_ _
   refine NoPanic.normal ?_
   rw[mi _ _ _ _ _ _ _ hne]
   generalize hW2:((aC w5 g5 (q1*8) ⟨6,0,0,0,false,⟨#[]⟩,p0,p1,p2⟩).setCell ⟨g,o+8,none⟩ (.slice (some ⟨g5,0,none⟩) (q1+1) c5))=W2 at*
   go_wp2
   go_end0
   exact⟨rfl,xW.out.2,_,xW.out.1⟩
end Go.Proofs.YtgbkolonhddolaaGreatDoor.prs
