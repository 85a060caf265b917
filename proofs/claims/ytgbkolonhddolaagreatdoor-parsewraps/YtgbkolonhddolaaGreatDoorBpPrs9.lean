import Derived.Test.YtgbkolonhddolaaGreatDoorBpPrs8
import Derived.Test.YtgbkolonhddolaaGreatDoorBpPrs2
set_option linter.unusedSectionVars false
set_option linter.unusedSimpArgs false
set_option linter.unusedVariables false
set_option maxRecDepth 100000
set_option maxHeartbeats 2000000
theorem Go.Proofs.YtgbkolonhddolaaGreatDoor.nL{p:Prop}(h:p):Go.RowKit.Hid p:=h
namespace Go.Proofs.YtgbkolonhddolaaGreatDoor.prs
open Go.RowKit nod tok
open rng(R RV info_parts)
open lin(BA)
variable[gh:Gh]
theorem Ok.back{K B pb:Nat}{w w1 w':World}{r:Except Int PS}{e:Ending}(h:Ok K B pb w1 r e w')(hb:Below B w w1):Ok K B pb w r e w':=⟨hb.trans h.1,h.2⟩
theorem Sx.tH{K B:Nat}{w:World}{pb s b bl q cl bv cv nv}(h:Sx K B w pb s (b::bl) (q::cl) bv cv nv)(hK:K≤100000):∃g cap,cv=.slice (some ⟨g,0,none⟩) (cl.length+1) cap∧∀w',Below w.heap.size w w'→Calls Tryz.prog 64 #[.pointer (some ⟨pb,0,none⟩)] w' fun e w''=>e=.returned (.pointer (some ⟨g,cl.length*11,none⟩))∧Below w'.heap.size w' w'':=by
 obtain⟨g,cap,rfl,_,_,_,_,_,_⟩:=h.px.class
 have:=h.lc
 simp only[List.length_cons]at this
 exact⟨g,cap,rfl,fun w' hb=>iO w' pb g _ _ nv cl.length cap (h.below hb).px.blk (by omega)⟩
theorem Sx.xO{K B:Nat}{w:World}{pb s b bl cl bv cv nv}(h:Sx K B w pb s (b::bl) cl bv cv nv)(hK:K≤100000):∃g cap,bv=.slice (some ⟨g,0,none⟩) (bl.length+1) cap∧∀w',Below w.heap.size w w'→Calls Tryz.prog 17 #[.pointer (some ⟨pb,0,none⟩)] w' fun e w''=>e=.returned (.pointer (some ⟨g,bl.length*10,none⟩))∧Below w'.heap.size w' w'':=by
 obtain⟨g,cap,rfl,_,_,_,_,_,_⟩:=h.px.body
 have:=h.lb
 simp only[List.length_cons]at this
 exact⟨g,cap,rfl,fun w' hb=>oJ w' pb g _ _ nv bl.length cap (h.below hb).px.blk (by omega)⟩
theorem sw{KK B:Nat}{w:World}{pb nx d0 bs' d cs' nm b bl q cl bv cv nv}(t:Tk)(ht:tV t)(h:Sx KK B w pb ⟨nx,d0::bs',d::cs',nm⟩ (b::bl) (q::cl) bv cv nv)(hKb:KK≤100000):
  Calls Tryz.prog 44 #[.pointer (some ⟨pb,0,none⟩),oO t] w fun e w'=>Ok (KK+1) B pb w (memS ⟨nx,d0::bs',d::cs',nm⟩ t) e w':=by
 have fF:=h.base
 have hpb:=h.px.blk.lt
 have Eu:=h.px.pB
 have HLF:∀(P:Nat→Prop)(w:World),Fz P w (iE t) (a8 (ig t)):=fun P w=>Et ht
 have CL:=fun w'=>zB t w'
 have CO:∀w1,Below w.heap.size w w1→_:=fun w1 hb=>nz t (h.below hb) hKb
 obtain⟨tk,tm,ta,tb,tn,tg,ts,te⟩:=t
 unfold oO at CL CO⊢
 simp only at CL CO⊢
 have HST:Hid (memS ⟨nx,d0::bs',d::cs',nm⟩ ⟨tk,tm,ta,tb,tn,tg,ts,te⟩=if tk=1∨tk=8 then .ok ⟨2,d0::bs',⟨d.neg,d.mode,d.left,d.mem++[iE ⟨tk,tm,ta,tb,tn,tg,ts,te⟩]⟩::cs',nm⟩else if tk=11 then aD ⟨nx,d0::bs',d::cs',nm⟩ ⟨tk,tm,ta,tb,tn,tg,ts,te⟩else .error 133):=rfl
 have HCO:=nL CO
 obtain⟨⟨lk,lm,la,lb,lg,ln,ka,kn,kc⟩,hlv⟩:∃v,ig ⟨tk,tm,ta,tb,tn,tg,ts,te⟩=v:=⟨_,rfl⟩
 rw[hlv]at HLF
 simp only[hlv,a8]at CL
 have HF:=nL HLF
 have DI:Hid (∀w',_):=CL
 generalize BA tn=X at*
 have B1:Below w.heap.size w (w.alloc (.cells #[.int .i64 tk,.int .i64 tm,.int .i64 ta,.int .i64 tb,.string X,.bool tg,.int .i64 ts,.int .i64 te] 66)):=(Below.refl _ w).alloc (Nat.le_refl _) _
 have TB:Bk (w.alloc (.cells #[.int .i64 tk,.int .i64 tm,.int .i64 ta,.int .i64 tb,.string X,.bool tg,.int .i64 ts,.int .i64 te] 66)) w.heap.size #[.int .i64 tk,.int .i64 tm,.int .i64 ta,.int .i64 tb,.string X,.bool tg,.int .i64 ts,.int .i64 te] 66:=Bk.new w _ _
 obtain⟨w1,hw1⟩:∃w1,w.alloc (.cells #[.int .i64 tk,.int .i64 tm,.int .i64 ta,.int .i64 tb,.string X,.bool tg,.int .i64 ts,.int .i64 te] 66)=w1:=⟨_,rfl⟩
 have HW1:=nL hw1
 rw[hw1]at B1 TB
 have eZ:=nL TB
 have HB1:Hid (Below w.heap.size w w1):=B1
 have HH:=nL (h.below B1)
 obtain⟨g,cap,hcv,GY⟩:=(h.below B1).tH hKb
 have HCV:=nL hcv
 have IU:Hid (∀w',Below w1.heap.size w1 w'→_):=GY
 have uj:Hid (Below B w w1):=ae B1 fF
 have uG:B≤w1.heap.size:=Nat.le_trans fF B1.size
 have l0:=eZ.out.cell 0 (u:=.int .i64 tk) rfl
 have l1:=eZ.out.cell 1 (u:=.int .i64 tm) rfl
 have l2:=eZ.out.cell 2 (u:=.int .i64 ta) rfl
 have l3:=eZ.out.cell 3 (u:=.int .i64 tb) rfl
 have l4:=eZ.out.cell 4 (u:=.string X) rfl
 have l5:=eZ.out.cell 5 (u:=.bool tg) rfl
 have l6:=eZ.out.cell 6 (u:=.int .i64 ts) rfl
 have l7:=eZ.out.cell 7 (u:=.int .i64 te) rfl
 clear hw1 B1 TB h HLF CL CO hlv hcv GY ht
 by_cases h18:tk=1∨tk=8
 ·have HS:Hid (memS ⟨nx,d0::bs',d::cs',nm⟩ ⟨tk,tm,ta,tb,tn,tg,ts,te⟩=.ok ⟨2,d0::bs',⟨d.neg,d.mode,d.left,d.mem++[iE ⟨tk,tm,ta,tb,tn,tg,ts,te⟩]⟩::cs',nm⟩):=by unfold Hid;rw[HST.out,if_pos h18]
  have e1:(tk==1)=decide (tk=1):=by simp[BEq.beq]
  have HM:Hid (∀w',Below w1.heap.size w1 w'→w'.cell? ⟨w.heap.size,0,none⟩=some (.int .i64 tk)∧w'.cell? ⟨w.heap.size,1,none⟩=some (.int .i64 tm)∧w'.cell? ⟨w.heap.size,2,none⟩=some (.int .i64 ta)∧w'.cell? ⟨w.heap.size,3,none⟩=some (.int .i64 tb)∧w'.cell? ⟨w.heap.size,4,none⟩=some (.string X)∧w'.cell? ⟨w.heap.size,5,none⟩=some (.bool tg)∧w'.cell? ⟨w.heap.size,6,none⟩=some (.int .i64 ts)∧w'.cell? ⟨w.heap.size,7,none⟩=some (.int .i64 te)):=fun w' hb=>⟨(eZ.out.on hb).cell 0 rfl,(eZ.out.on hb).cell 1 rfl,(eZ.out.on hb).cell 2 rfl,(eZ.out.on hb).cell 3 rfl,(eZ.out.on hb).cell 4 rfl,(eZ.out.on hb).cell 5 rfl,(eZ.out.on hb).cell 6 rfl,(eZ.out.on hb).cell 7 rfl⟩
  have key:∀(k1 k8:Bool),(tk==1)=k1→(tk==8)=k8→(k1||k8)=true→Calls Tryz.prog 44 #[.pointer (some ⟨pb,0,none⟩),.agg #[.int .i64 tk,.int .i64 tm,.int .i64 ta,.int .i64 tb,.string X,.bool tg,.int .i64 ts,.int .i64 te]] w fun e w'=>Ok (KK+1) B pb w (memS ⟨nx,d0::bs',d::cs',nm⟩ ⟨tk,tm,ta,tb,tn,tg,ts,te⟩) e w':=by
   intro k1 k8 q1 q8 q18
   clear HST HCO e1 h18
   cases k1
   ·cases k8
    ·cases q18
    ·clear q18
     go_enter Tryz.func44,Tryz.ntmps44
     go_upto_region 1 with fail
     rw[HW1.out]
     clear HW1
     go_upto_region 4 with fail
     refine wp_region_noPanic ?_
     refine aZ 3 (fun w'=>w'.cell? ⟨w.heap.size,0,none⟩=some (.int .i64 tk)∧w'.cell? ⟨w.heap.size,1,none⟩=some (.int .i64 tm)∧w'.cell? ⟨w.heap.size,2,none⟩=some (.int .i64 ta)∧w'.cell? ⟨w.heap.size,3,none⟩=some (.int .i64 tb)∧w'.cell? ⟨w.heap.size,4,none⟩=some (.string X)∧w'.cell? ⟨w.heap.size,5,none⟩=some (.bool tg)∧w'.cell? ⟨w.heap.size,6,none⟩=some (.int .i64 ts)∧w'.cell? ⟨w.heap.size,7,none⟩=some (.int .i64 te)) (by kernel_rfl) ⟨l0,l1,l2,l3,l4,l5,l6,l7⟩ (fun hHeld=>?_)
     refine gH 2 (v:=?_) rfl (by kernel_rfl) (fun _ _ _ h=>h) (by rfl) ?_ (by assumption) ?_
     rotate_left
     ·(intro w' hSw;(try dsimp only at hSw);go_simp;try with_reducible rfl)
     try simp only[Act.put,lin.sm]
     refine aG (j:=0) (by kernel_rfl) (by decide) rfl (fun K hK=>?_)
     go_simp
     refine hK.out _ _ ?_ (fun hHeld=>?_)
     ·exact hHeld
     clear hK K
     try simp only[Act.put,lin.sm]
     refine aG (j:=1) (by kernel_rfl) (by decide) rfl (fun K hK=>?_)
     go_simp
     refine(IU.out w1.drew (Below.refl _ _).drew).mono ?_
     rintro e w5⟨rfl,hb5⟩
     have kZ:Hid (Below w1.heap.size w1 w5):=((Below.refl _ w1).drew).trans hb5
     clear hb5
     refine hK.out _ _ (HM.out _ kZ.out) (fun hHeld=>?_)
     clear hK K
     try simp only[Act.put,lin.sm]
     refine aU (by kernel_rfl) rfl (fun K hK=>?_)
     go_simp
     refine(DI.out w5).mono ?_
     rintro e w6⟨rfl,hb6⟩
     have DJ:Hid (Below w1.heap.size w1 w6):=kZ.out.trans (ae hb6 kZ.out.size)
     clear hb6
     refine hK.out _ _ ?_
     clear hK K
     try simp only[Act.put,lin.sm]
     have G6:=HH.out.below DJ.out
     rw[HCV.out]at G6
     have jX:=LZ lk lm la lb lg ln ka kn kc G6 (HF.out _ _) hKb
     clear G6
     refine wpAny_of_held (S:=fun _=>True) _ _ _ _ ?_
     have hHeld:=True.intro
     refine wpAnyH_ready (rs:=[4]) (by kernel_rfl) (by simp) ?_
     refine AllReadyH.cons rfl (fun K hK=>?_) AllReadyH.nil
     go_simp
     refine jX.mono ?_
     rintro e w7⟨rfl,lI,s6,Ey⟩
     have tZ:Hid (Below B w w7):=(uj.out.trans (ae DJ.out uG)).trans lI
     have mV:Hid (Sx (KK+1) B w7 pb _ _ _ _ _ _):=Ey
     clear jX lI Ey
     refine hK.out _ _ True.intro (fun hHeld=>?_)
     clear hK K
     try simp only[Act.put,lin.sm]
     refine wpAnyH_done (by kernel_rfl) ?_ _
     refine NoPanic.normal ?_
     have x0:=mV.out.px.blk.cell 0 rfl
     have f0:=mV.out.px.blk.frozen 0
     clear hHeld
     go_wp2
     go_ret
     exact⟨tZ.out.setCell (by exact Eu) _,.inr ⟨_,HS.out,rfl,_,_,_,_,_,mV.out.next 2⟩⟩
   ·clear q18 q8
    go_enter Tryz.func44,Tryz.ntmps44
    go_upto_region 1 with fail
    rw[HW1.out]
    clear HW1
    go_upto_region 4 with fail
    refine wp_region_noPanic ?_
    refine aZ 3 (fun w'=>w'.cell? ⟨w.heap.size,0,none⟩=some (.int .i64 tk)∧w'.cell? ⟨w.heap.size,1,none⟩=some (.int .i64 tm)∧w'.cell? ⟨w.heap.size,2,none⟩=some (.int .i64 ta)∧w'.cell? ⟨w.heap.size,3,none⟩=some (.int .i64 tb)∧w'.cell? ⟨w.heap.size,4,none⟩=some (.string X)∧w'.cell? ⟨w.heap.size,5,none⟩=some (.bool tg)∧w'.cell? ⟨w.heap.size,6,none⟩=some (.int .i64 ts)∧w'.cell? ⟨w.heap.size,7,none⟩=some (.int .i64 te)) (by kernel_rfl) ⟨l0,l1,l2,l3,l4,l5,l6,l7⟩ (fun hHeld=>?_)
    refine gH 2 (v:=?_) rfl (by kernel_rfl) (fun _ _ _ h=>h) (by rfl) ?_ (by assumption) ?_
    rotate_left
    ·(intro w' hSw;(try dsimp only at hSw);go_simp;try with_reducible rfl)
    try simp only[Act.put,lin.sm]
    refine aG (j:=0) (by kernel_rfl) (by decide) rfl (fun K hK=>?_)
    go_simp
    refine hK.out _ _ ?_ (fun hHeld=>?_)
    ·exact hHeld
    clear hK K
    try simp only[Act.put,lin.sm]
    refine aG (j:=1) (by kernel_rfl) (by decide) rfl (fun K hK=>?_)
    go_simp
    refine(IU.out w1.drew (Below.refl _ _).drew).mono ?_
    rintro e w5⟨rfl,hb5⟩
    have kZ:Hid (Below w1.heap.size w1 w5):=((Below.refl _ w1).drew).trans hb5
    clear hb5
    refine hK.out _ _ (HM.out _ kZ.out) (fun hHeld=>?_)
    clear hK K
    try simp only[Act.put,lin.sm]
    refine aU (by kernel_rfl) rfl (fun K hK=>?_)
    go_simp
    refine(DI.out w5).mono ?_
    rintro e w6⟨rfl,hb6⟩
    have DJ:Hid (Below w1.heap.size w1 w6):=kZ.out.trans (ae hb6 kZ.out.size)
    clear hb6
    refine hK.out _ _ ?_
    clear hK K
    try simp only[Act.put,lin.sm]
    have G6:=HH.out.below DJ.out
    rw[HCV.out]at G6
    have jX:=LZ lk lm la lb lg ln ka kn kc G6 (HF.out _ _) hKb
    clear G6
    refine wpAny_of_held (S:=fun _=>True) _ _ _ _ ?_
    have hHeld:=True.intro
    refine wpAnyH_ready (rs:=[4]) (by kernel_rfl) (by simp) ?_
    refine AllReadyH.cons rfl (fun K hK=>?_) AllReadyH.nil
    go_simp
    refine jX.mono ?_
    rintro e w7⟨rfl,lI,s6,Ey⟩
    have tZ:Hid (Below B w w7):=(uj.out.trans (ae DJ.out uG)).trans lI
    have mV:Hid (Sx (KK+1) B w7 pb _ _ _ _ _ _):=Ey
    clear jX lI Ey
    refine hK.out _ _ True.intro (fun hHeld=>?_)
    clear hK K
    try simp only[Act.put,lin.sm]
    refine wpAnyH_done (by kernel_rfl) ?_ _
    refine NoPanic.normal ?_
    have x0:=mV.out.px.blk.cell 0 rfl
    have f0:=mV.out.px.blk.frozen 0
    clear hHeld
    go_wp2
    go_ret
    exact⟨tZ.out.setCell (by exact Eu) _,.inr ⟨_,HS.out,rfl,_,_,_,_,_,mV.out.next 2⟩⟩
  exact key _ _ rfl rfl (by rcases h18 with rfl|rfl<;>rfl)
 ·have e1:(tk==1)=false:=by simp;omega
  have e8:(tk==8)=false:=by simp;omega
  by_cases h11:tk=11
  ·have HS:Hid (memS ⟨nx,d0::bs',d::cs',nm⟩ ⟨tk,tm,ta,tb,tn,tg,ts,te⟩=aD ⟨nx,d0::bs',d::cs',nm⟩ ⟨tk,tm,ta,tb,tn,tg,ts,te⟩):=by unfold Hid;rw[HST.out,if_neg h18,if_pos h11]
   have e11:(tk==11)=true:=by simp[h11]
   have CC:=HCO.out w1 HB1.out
   clear HST HCO h18 h11 DI IU
   go_enter Tryz.func44,Tryz.ntmps44
   go_upto_region 1 with fail
   rw[HW1.out]
   clear HW1
   go_wp2_with fail
   refine CC.mono ?_
   rintro e w2 hok
   have HO:=hok.back uj.out
   rw[←HS.out]at HO
   clear CC hok
   rcases HO with⟨hb,⟨c,hc,rfl,hgh⟩|⟨s',hs',rfl,hx⟩⟩
   ·have HE:Hid (Ok (KK+1) B pb w (memS ⟨nx,d0::bs',d::cs',nm⟩ ⟨tk,tm,ta,tb,tn,tg,ts,te⟩) (.returned (.int .i64 c)) w2):=⟨hb,.inl ⟨c,hc,rfl,hgh⟩⟩
    clear hb hc hgh
    go_wp2
    go_ret
    exact HE.out
   ·have HE:Hid (Ok (KK+1) B pb w (memS ⟨nx,d0::bs',d::cs',nm⟩ ⟨tk,tm,ta,tb,tn,tg,ts,te⟩) (.returned (.int .i64 0)) w2):=⟨hb,.inr ⟨s',hs',rfl,hx⟩⟩
    clear hb hs' hx
    go_wp2
    go_ret
    exact HE.out
  ·have HE:Hid (Ok (KK+1) B pb w (memS ⟨nx,d0::bs',d::cs',nm⟩ ⟨tk,tm,ta,tb,tn,tg,ts,te⟩) (.returned (.int .i64 133)) w1):=⟨uj.out,.inl ⟨133,by rw[HST.out,if_neg h18,if_neg h11],rfl,HH.out.px.gh⟩⟩
   have e11:(tk==11)=false:=by simpa using h11
   clear HST HCO h18 h11 DI IU
   go_enter Tryz.func44,Tryz.ntmps44
   go_upto_region 1 with fail
   rw[HW1.out]
   clear HW1
   go_wp2
   go_ret
   exact HE.out
end Go.Proofs.YtgbkolonhddolaaGreatDoor.prs
namespace Go.Proofs.YtgbkolonhddolaaGreatDoor.prs
open Go.RowKit nod tok
open rng(R RV info_parts)
open lin(BA)
variable[gh:Gh]
/--The last member has become a range. -/
theorem Sx.ranged{K B:Nat}{w:World}{pb nx bs d cs' nm bl q cl bv cv nv}{gp n c:Nat}{xa ta:Int}{xs:List Nv}{x:Nv}{l:Nd}(h:Sx K B w pb ⟨nx,bs,d::cs',nm⟩ bl (q::cl) bv cv nv)(ht:dQ ta)(hi:dQ xa)
  (hl:d.mem.getLast?=some l)(ho:w.ownsRow B 26 8 (.slice (some ⟨gp,0,none⟩) (n+1) c) (n+1) (bI (xs++[x])))(hrn:RN (Dd B w (rowsOf bl bs (q::cl) (d::cs'))) w xs d.mem.dropLast)(hxl:xs.length=n)(hpt:q.mem=(some ⟨gp,0,none⟩,n+1,c)):
  Sx K B (aC w gp (n*8) ⟨4,0,xa,ta,false,⟨#[]⟩,none,0,0⟩) pb ⟨nx,bs,⟨d.neg,d.mode,d.left,d.mem.dropLast++[nd 4 0 xa ta false [] []]⟩::cs',nm⟩ bl (q::cl) bv cv nv∧Below B w (aC w gp (n*8) ⟨4,0,xa,ta,false,⟨#[]⟩,none,0,0⟩):=by
 obtain⟨o8,g8⟩:=rW ho (o:=n*8) (by rw[hxl]) ⟨4,0,xa,ta,false,⟨#[]⟩,none,0,0⟩
 have hN:∀k,some gp=some k→lh w k:=fun k e=>by cases e;exact lh.own ho rfl
 have hpx:=h.px.grown g8 hN
 have hsw:(rowsOf bl bs (q::cl) (d::cs')).Perm ((.slice (some ⟨gp,0,none⟩) (n+1) c,d.mem)::(rowsB bl bs++rowsC cl cs')):=by
  have:(rowsOf bl bs (q::cl) (d::cs')).Perm ((.slice q.mem.1 q.mem.2.1 q.mem.2.2,d.mem)::(rowsB bl bs++rowsC cl cs')):=List.perm_middle
  rwa[hpt]at this
 have hsw':(rowsOf bl bs (q::cl) (⟨d.neg,d.mode,d.left,d.mem.dropLast++[nd 4 0 xa ta false [] []]⟩::cs')).Perm ((.slice (some ⟨gp,0,none⟩) (n+1) c,d.mem.dropLast++[nd 4 0 xa ta false [] []])::(rowsB bl bs++rowsC cl cs')):=by
  have:(rowsOf bl bs (q::cl) (⟨d.neg,d.mode,d.left,d.mem.dropLast++[nd 4 0 xa ta false [] []]⟩::cs')).Perm ((.slice q.mem.1 q.mem.2.1 q.mem.2.2,d.mem.dropLast++[nd 4 0 xa ta false [] []])::(rowsB bl bs++rowsC cl cs')):=List.perm_middle
  rwa[hpt]at this
 have hlen:(d.mem.dropLast++[nd 4 0 xa ta false [] []]).length=n+1:=by rw[List.length_append,←hrn.1,hxl];rfl
 obtain⟨hrw,hfz⟩:=h.rows.mH hsw hsw' (NU.aF g8) (.inl rfl) (by rw[hlen];exact o8) (hrn.snoc (x:=⟨4,0,xa,ta,false,⟨#[]⟩,none,0,0⟩) (iH ⟨ai _ (by decide),ai _ (by decide),hi,ht⟩ (by decide)))
 have fF:B≤w.heap.size:=Nat.le_trans h.px.pB (Nat.le_of_lt h.px.blk.lt)
 refine⟨⟨hpx,h.br,?_,hrw,h.lb,h.lc,h.ln,fun r hr=>?_⟩,Below.aF g8 fF fun k e=>by cases e;exact(ho.lt _ rfl).1⟩
 ·have hcx:=h.cx.imp fun t u f=>hfz t u f
  cases hcx with
  |cons _ _ _ _ e1 e2 hi e3 hr=>exact .cons _ _ _ _ e1 e2 hi e3 hr
 ·have hlr:∀r∈rowsOf bl bs (q::cl) (d::cs'),r.2.length≤K:=h.lr
  rcases List.mem_cons.1 (hsw'.mem_iff.1 hr)with rfl|hr
  ·have hpl:d.mem.length=n+1:=by
    obtain⟨l',e⟩:=List.getLast?_eq_some_iff.1 hl
    have:=hrn.1
    rw[e]at this⊢
    simp at this⊢
    omega
   have:=hlr _ (hsw.mem_iff.2 (List.mem_cons_self))
   simp only at*
   omega
  ·exact hlr r (hsw.mem_iff.2 (List.mem_cons_of_mem _ hr))
/--The innermost class's last member, as it lies. -/
theorem Sx.last_at{K B:Nat}{w:World}{pb nx bs d cs' nm bl q cl bv cv nv}{l:Nd}(h:Sx K B w pb ⟨nx,bs,d::cs',nm⟩ bl (q::cl) bv cv nv)(hK:K≤100000)(hl:d.mem.getLast?=some l):
  ∃gp n c xs x,q.mem=(some ⟨gp,0,none⟩,n+1,c)∧n≤100000∧w.ownsRow B 26 8 (.slice (some ⟨gp,0,none⟩) (n+1) c) (n+1) (bI (xs++[x]))∧RN (Dd B w (rowsOf bl bs (q::cl) (d::cs'))) w xs d.mem.dropLast∧xs.length=n∧l.kind=x.k∧l.a=x.a∧dQ x.a∧
   gp<w.heap.size∧(∀j u,(c8 x)[j]?=some u→w.cell? ⟨gp,n*8+j,none⟩=some u)∧∀j,w.frozen? ⟨gp,j,none⟩=false:=by
 obtain⟨xs,hown,hrn⟩:=h.rows.each (.slice q.mem.1 q.mem.2.1 q.mem.2.2,d.mem) (by simp[rowsOf,rowsC])
 have hlen:=h.lr (.slice q.mem.1 q.mem.2.1 q.mem.2.2,d.mem) (by simp[rowsOf,rowsC])
 simp only at hown hrn hlen
 obtain⟨ys,x,rfl,hyl,hxl,hrl⟩:=hrn.last hl
 obtain⟨⟨p0,p1,p2⟩,hpt⟩:∃p,q.mem=p:=⟨_,rfl⟩
 rw[hpt]at hown
 dsimp only at hown
 rw[←hyl]at hown
 obtain⟨gp,c',e,hBp,sK,_,_⟩:=lD hown (by omega)
 simp only[Value.slice.injEq]at e
 obtain⟨rfl,rfl,rfl⟩:=e
 obtain⟨hk1,ha1,hi1⟩:=hxl.kind
 refine⟨gp,ys.length,p2,ys,x,hpt,by omega,hown,hrl,rfl,hk1,ha1,hi1.2.2.1,sK,fun j u hu=>?_,fun j=>hown.frozenAt j⟩
 have hj:j<8:=(List.getElem?_eq_some_iff.1 hu).1
 rw[hown.cellAt _ (by omega)]
 exact jU (ys++[x]) ys.length j x u (by simp) hu
theorem wU{KK B:Nat}{w:World}{pb nx d0 bs' d cs' nm b bl q cl bv cv nv}{l:Nd}(t:Tk)(ht:tV t)(h:Sx KK B w pb ⟨nx,d0::bs',d::cs',nm⟩ (b::bl) (q::cl) bv cv nv)(hKb:KK≤100000)(hl:d.mem.getLast?=some l):
  Calls Tryz.prog 83 #[.pointer (some ⟨pb,0,none⟩),oO t] w fun e w'=>Ok (KK+1) B pb w (gD ⟨nx,d0::bs',d::cs',nm⟩ t) e w':=by
 have fF:=h.base
 have Eu:=h.px.pB
 have HST:Hid (gD ⟨nx,d0::bs',d::cs',nm⟩ t=if t.kind≠1 then .error 133 else if t.a<l.a then .error 152 else .ok ⟨2,d0::bs',⟨d.neg,d.mode,d.left,d.mem.dropLast++[nd 4 0 l.a t.a false [] []]⟩::cs',nm⟩):=by unfold Hid gD;dsimp only;rw[hl]
 obtain⟨tk,tm,ta,tb,tn,tg,ts,te⟩:=t
 unfold oO
 simp only at HST⊢
 have B1:Below w.heap.size w (w.alloc (.cells #[.int .i64 tk,.int .i64 tm,.int .i64 ta,.int .i64 tb,.string (BA tn),.bool tg,.int .i64 ts,.int .i64 te] 66)):=(Below.refl _ w).alloc (Nat.le_refl _) _
 have TB:Bk (w.alloc (.cells #[.int .i64 tk,.int .i64 tm,.int .i64 ta,.int .i64 tb,.string (BA tn),.bool tg,.int .i64 ts,.int .i64 te] 66)) w.heap.size #[.int .i64 tk,.int .i64 tm,.int .i64 ta,.int .i64 tb,.string (BA tn),.bool tg,.int .i64 ts,.int .i64 te] 66:=Bk.new w _ _
 obtain⟨w1,hw1⟩:∃w1,w.alloc (.cells #[.int .i64 tk,.int .i64 tm,.int .i64 ta,.int .i64 tb,.string (BA tn),.bool tg,.int .i64 ts,.int .i64 te] 66)=w1:=⟨_,rfl⟩
 have HW1:=nL hw1
 rw[hw1]at B1 TB
 have h1:=h.below B1
 obtain⟨g,cap,hcv,GY⟩:=h1.tH hKb
 obtain⟨g2,cap2,Cv,_,_,_,_,hcell,_⟩:=h1.px.class
 rw[hcv]at Cv
 simp only[Value.slice.injEq,Option.some.injEq,Addr.mk.injEq,and_true,true_and]at Cv
 obtain⟨rfl,rfl⟩:=Cv
 obtain⟨gp,n,c,xs,x,hmem,hn,hown,hrn,hxl,hlk,hla,hxi,sK,hpc,hpf⟩:=h1.last_at hKb hl
 have CA:=GY w1 (Below.refl _ _)
 have EX:=hcell 10 _ rfl
 rw[hmem]at EX
 have hmem':q.mem=(some ⟨gp,0,none⟩,n+1,c):=hmem
 have hg1:=World.block_lt_of_cell? w1 _ EX
 simp only[]at hg1
 have HRG:Hid (∀w',Below w1.heap.size w1 w'→Sx KK B (aC w' gp (n*8) ⟨4,0,x.a,ta,false,⟨#[]⟩,none,0,0⟩) pb ⟨nx,d0::bs',⟨d.neg,d.mode,d.left,d.mem.dropLast++[nd 4 0 x.a ta false [] []]⟩::cs',nm⟩ (b::bl) (q::cl) bv cv nv∧Below B w' (aC w' gp (n*8) ⟨4,0,x.a,ta,false,⟨#[]⟩,none,0,0⟩)):=fun w' hb=>(h1.below hb).ranged ht.a hxi hl (rng.own_below' hown hb) (hrn.imp fun t u f=>f.nu (NU.of_below hb)) hxl hmem'
 obtain⟨xk,xm,xa,xb,xg,xn,xka,xkn,xkc⟩:=x
 simp only at HRG hla hlk
 rw[hla]at HST
 have uj:Hid (Below B w w1):=ae B1 fF
 have HGH:Hid (∀w',Below w1.heap.size w1 w'→je gh w'):=fun w' hb=>(h.below B1).px.gh.below hb
 have uG:B≤w1.heap.size:=Nat.le_trans fF B1.size
 generalize BA tn=X at*
 have CLS:=fun w'(hb:Below w1.heap.size w1 w')=>zC w' g (cl.length*11) gp n c ((hb.cell (p:=⟨g,_,none⟩) hg1).trans EX) (by omega)
 have HPC:Hid (∀w',Below w1.heap.size w1 w'→(∀j u,(c8 ⟨xk,xm,xa,xb,xg,xn,xka,xkn,xkc⟩)[j]?=some u→w'.cell? ⟨gp,n*8+j,none⟩=some u)∧(∀j,w'.frozen? ⟨gp,j,none⟩=false)∧Bk w' w.heap.size #[.int .i64 tk,.int .i64 tm,.int .i64 ta,.int .i64 tb,.string X,.bool tg,.int .i64 ts,.int .i64 te] 66):=fun w' hb=>⟨fun j u hu=>(hb.cell (p:=⟨gp,_,none⟩) sK).trans (hpc j u hu),fun j=>(World.frozen?_of_block (a:=⟨gp,j,none⟩) (hb.block gp sK)).trans (hpf j),TB.on hb⟩
 clear hw1 B1 TB h h1 hcv GY hcell hmem hmem' hown hrn hxl hpc hpf ht hl EX hxi
 go_enter Tryz.func83,Tryz.ntmps83
 go_upto_region 1 with fail
 rw[HW1.out]
 go_wp2_with fail
 refine CA.mono ?_
 rintro e w2⟨rfl,hb2⟩
 clear CA
 go_wp2_with fail
 refine(CLS w2 hb2).mono ?_
 rintro e w3⟨rfl,hb3⟩
 clear CLS
 have HB3:Hid (Below w1.heap.size w1 w3):=hb2.trans (ae hb3 hb2.size)
 have jd:Hid (Below B w w3):=uj.out.trans (ae HB3.out uG)
 obtain⟨hc3,hf3,DD⟩:=HPC.out w3 HB3.out
 have t0:=DD.cell 0 (u:=.int .i64 tk) rfl
 have t2:=DD.cell 2 (u:=.int .i64 ta) rfl
 have y2:=hc3 2 _ rfl
 clear hb2 hb3
 by_cases h1:tk=1
 ·have k1:(tk==1)=true:=by simp[h1]
  have k2:(tk !=1)=false:=by simp[h1]
  by_cases hlt:ta<xa
  ·have HE:Hid (Ok (KK+1) B pb w (gD ⟨nx,d0::bs',d::cs',nm⟩ ⟨tk,tm,ta,tb,tn,tg,ts,te⟩) (.returned (.int .i64 152)) w3):=⟨jd.out,.inl ⟨152,by rw[HST.out,if_neg (by simp[h1]),if_pos hlt],rfl,HGH.out _ HB3.out⟩⟩
   have d1:decide (ta<xa)=true:=decide_eq_true hlt
   have HE2:Hid (∀q,Ok (KK+1) B pb w (gD ⟨nx,d0::bs',d::cs',nm⟩ ⟨tk,tm,ta,tb,tn,tg,ts,te⟩) (.returned (.int .i64 152)) (w3.drewN q)):=fun q=>⟨below_drewN jd.out q,.inl ⟨152,by rw[HST.out,if_neg (by simp[h1]),if_pos hlt],rfl,HGH.out _ (below_drewN HB3.out q)⟩⟩
   clear h1 HST hc3 hf3 DD HE
   go_wp2
   go_quiet(fail)
   go_wp2
   go_ret
   exact HE2.out _
  ·have d1:decide (ta<xa)=false:=decide_eq_false hlt
   have HS:Hid (gD ⟨nx,d0::bs',d::cs',nm⟩ ⟨tk,tm,ta,tb,tn,tg,ts,te⟩=.ok ⟨2,d0::bs',⟨d.neg,d.mode,d.left,d.mem.dropLast++[nd 4 0 xa ta false [] []]⟩::cs',nm⟩):=by unfold Hid;rw[HST.out,if_neg (by simp[h1]),if_neg hlt]
   clear h1 HST hc3 hf3 DD
   go_wp2
   go_quiet(fail)
   generalize hw4:w3.drewN nq=w4 at*
   have uO:Hid (Below w1.heap.size w1 w4.drew):=by rw[←hw4];exact(below_drewN HB3.out nq).drew
   have HBW4:Hid (Below B w w4.drew):=by rw[←hw4];exact(below_drewN jd.out nq).drew
   obtain⟨hc4,Ew,TB4⟩:=HPC.out w4.drew uO.out
   have t2:w4.cell? ⟨w.heap.size,2,none⟩=some (.int .i64 ta):=TB4.cell 2 rfl
   have y2:w4.cell? ⟨gp,n*8+2,none⟩=some (.int .i64 xa):=hc4 2 _ rfl
   have q0:=hc4 0 _ rfl
   have q1:=hc4 1 _ rfl
   have q2:=hc4 2 _ rfl
   have q3:=hc4 3 _ rfl
   have q4:=hc4 4 _ rfl
   have q5:=hc4 5 _ rfl
   have q6:=hc4 6 _ rfl
   have q7:=hc4 7 _ rfl
   have v0:=Ew (n*8+0)
   have v1:=Ew (n*8+1)
   have v2:=Ew (n*8+2)
   have v3:=Ew (n*8+3)
   have v4:=Ew (n*8+4)
   have v5:=Ew (n*8+5)
   have v6:=Ew (n*8+6)
   have v7:=Ew (n*8+7)
   simp only[Nat.add_zero]at q0 v0
   have HRR:Hid (_∧_):=HRG.out w4.drew uO.out
   clear hc4 Ew TB4 hw4
   go_upto_region 6 with fail
   refine UK.begin 9 (fun w'=>w'.cell? ⟨gp,n*8+2,none⟩=some (.int .i64 xa)∧w'.cell? ⟨w.heap.size,2,none⟩=some (.int .i64 ta)) (by kernel_rfl) ⟨y2,t2⟩ (fun hHeld=>?_)
   iterate 9
    refine UK.take (v:=?_) rfl (by kernel_rfl) (fun _ _ _ h=>h) (by rfl) ?_ (by assumption) ?_
    rotate_left
    ·(intro w' hSw;(try dsimp only at hSw);go_simp;try with_reducible rfl)
    try simp only[Act.put,lin.sm]
   generalize hw5:w4.drew=w5 at*
   clear hw5
   refine UK.last (by kernel_rfl) rfl (fun K hK=>?_)
   go_simp
   refine hK.out _ (aC w5 gp (n*8) ⟨4,0,xa,ta,false,⟨#[]⟩,none,0,0⟩) ?_
   clear hK K
   try simp only[Act.put,lin.sm]
   have hHeld:=True.intro
   refine lin.UH.fin (by kernel_rfl) ?_
   have mV:=nL HRR.out.1
   have tZ:=nL (HBW4.out.trans HRR.out.2)
   clear hHeld HRR q0 v0 q1 v1 q2 v2 q3 v3 q4 v4 q5 v5 q6 v6 q7 v7
   generalize(aC w5 gp (n*8) ⟨4,0,xa,ta,false,⟨#[]⟩,none,0,0⟩)=w7 at*
   have x0:=mV.out.px.blk.cell 0 rfl
   have f0:=mV.out.px.blk.frozen 0
   go_wp2
   go_ret
   exact⟨tZ.out.setCell (by exact Eu) _,.inr ⟨_,HS.out,rfl,_,_,_,_,_,(mV.out.next 2).more (Nat.le_succ _)⟩⟩
 ·have k1:(tk==1)=false:=by simpa using h1
  have k2:(tk !=1)=true:=by simp[h1]
  have HE:Hid (Ok (KK+1) B pb w (gD ⟨nx,d0::bs',d::cs',nm⟩ ⟨tk,tm,ta,tb,tn,tg,ts,te⟩) (.returned (.int .i64 133)) w3):=⟨jd.out,.inl ⟨133,by rw[HST.out,if_pos h1],rfl,HGH.out _ HB3.out⟩⟩
  clear HST hc3 hf3 DD
  go_wp2
  go_ret
  exact HE.out
end Go.Proofs.YtgbkolonhddolaaGreatDoor.prs
namespace Go.Proofs.YtgbkolonhddolaaGreatDoor.prs
open Go.RowKit nod tok
open rng(R RV info_parts)
open lin(BA)
variable[gh:Gh]
theorem zU{KK B:Nat}{w:World}{pb nx d0 bs' d cs' nm b bl q cl bv cv nv}{l:Nd}(t:Tk)(ht:tV t)(h:Sx KK B w pb ⟨nx,d0::bs',d::cs',nm⟩ (b::bl) (q::cl) bv cv nv)(hKb:KK≤100000)(hl:d.mem.getLast?=some l):
  Calls Tryz.prog 66 #[.pointer (some ⟨pb,0,none⟩),oO t] w fun e w'=>Ok (KK+1) B pb w (dZ ⟨nx,d0::bs',d::cs',nm⟩ t) e w':=by
 have fF:=h.base
 have Eu:=h.px.pB
 have CM:=fun w1(hb:Below w.heap.size w w1)=>sw t ht (h.below hb) hKb
 have CC:=fun w1(hb:Below w.heap.size w w1)=>tu (h.below hb) hKb
 have hm:=ht.m
 have HST:Hid (dZ ⟨nx,d0::bs',d::cs',nm⟩ t=if t.kind=12 then endS ⟨nx,d0::bs',d::cs',nm⟩else if t.kind=14 then .ok ⟨1,d0::bs',⟨d.neg,t.mode,d.inner,[]⟩::cs',nm⟩else if t.kind=13 then(if l.kind=1 then .ok ⟨3,d0::bs',d::cs',nm⟩else .error 133)else memS ⟨nx,d0::bs',d::cs',nm⟩ t):=by unfold Hid dZ;dsimp only;rw[hl];simp only[Option.map_some,Option.some.injEq]
 obtain⟨tk,tm,ta,tb,tn,tg,ts,te⟩:=t
 unfold oO at CM⊢
 simp only at HST CM hm⊢
 have B1:Below w.heap.size w (w.alloc (.cells #[.int .i64 tk,.int .i64 tm,.int .i64 ta,.int .i64 tb,.string (BA tn),.bool tg,.int .i64 ts,.int .i64 te] 66)):=(Below.refl _ w).alloc (Nat.le_refl _) _
 have TB:Bk (w.alloc (.cells #[.int .i64 tk,.int .i64 tm,.int .i64 ta,.int .i64 tb,.string (BA tn),.bool tg,.int .i64 ts,.int .i64 te] 66)) w.heap.size #[.int .i64 tk,.int .i64 tm,.int .i64 ta,.int .i64 tb,.string (BA tn),.bool tg,.int .i64 ts,.int .i64 te] 66:=Bk.new w _ _
 obtain⟨w1,hw1⟩:∃w1,w.alloc (.cells #[.int .i64 tk,.int .i64 tm,.int .i64 ta,.int .i64 tb,.string (BA tn),.bool tg,.int .i64 ts,.int .i64 te] 66)=w1:=⟨_,rfl⟩
 have HW1:=nL hw1
 rw[hw1]at B1 TB
 have HCM:Hid _:=CM w1 B1
 have HCC:Hid _:=CC w1 B1
 have h1:=h.below B1
 have HH:=nL h1
 obtain⟨g,cap,hcv,GY⟩:=h1.tH hKb
 have HCV:=nL hcv
 obtain⟨g2,cap2,Cv,_,_,_,_,hcell,_⟩:=h1.px.class
 rw[hcv]at Cv
 simp only[Value.slice.injEq,Option.some.injEq,Addr.mk.injEq,and_true,true_and]at Cv
 obtain⟨rfl,rfl⟩:=Cv
 obtain⟨gp,n,c,xs,x,hmem,hn,hown,hrn,hxl,hlk,hla,hxi,sK,hpc,hpf⟩:=h1.last_at hKb hl
 have IU:Hid (∀w',Below w1.heap.size w1 w'→_):=GY
 have EX:=hcell 10 _ rfl
 rw[hmem]at EX
 have hg1:=World.block_lt_of_cell? w1 _ EX
 simp only[]at hg1
 have y0:=hpc 0 _ rfl
 obtain⟨xk,hxk⟩:∃k,x.k=k:=⟨_,rfl⟩
 rw[hxk]at y0
 rw[hlk,hxk]at HST
 have uj:Hid (Below B w w1):=ae B1 fF
 have uG:B≤w1.heap.size:=Nat.le_trans fF B1.size
 generalize BA tn=X at*
 have EN:Hid (∀w',Below w1.heap.size w1 w'→_):=fun w' hb=>zC w' g (cl.length*11) gp n c ((hb.cell (p:=⟨g,_,none⟩) hg1).trans EX) (by omega)
 have HY:Hid (∀w',Below w1.heap.size w1 w'→w'.cell? ⟨gp,n*8,none⟩=some (.int .i64 xk)):=fun w' hb=>(hb.cell (p:=⟨gp,_,none⟩) sK).trans y0
 have eZ:=nL TB
 have l0:=eZ.out.cell 0 (u:=.int .i64 tk) rfl
 have l1:=eZ.out.cell 1 (u:=.int .i64 tm) rfl
 have l2:=eZ.out.cell 2 (u:=.int .i64 ta) rfl
 have l3:=eZ.out.cell 3 (u:=.int .i64 tb) rfl
 have l4:=eZ.out.cell 4 (u:=.string X) rfl
 have l5:=eZ.out.cell 5 (u:=.bool tg) rfl
 have l6:=eZ.out.cell 6 (u:=.int .i64 ts) rfl
 have l7:=eZ.out.cell 7 (u:=.int .i64 te) rfl
 clear hw1 B1 TB h h1 hcv GY hcell hmem hown hrn hxl hpc hpf ht hl EX hxi CM CC y0
 by_cases h12:tk=12
 ·have e12:(tk==12)=true:=by simp[h12]
  have CE:Calls Tryz.prog 80 #[.pointer (some ⟨pb,0,none⟩)] w1 _:=HCC.out
  have HS:Hid (dZ ⟨nx,d0::bs',d::cs',nm⟩ ⟨tk,tm,ta,tb,tn,tg,ts,te⟩=endS ⟨nx,d0::bs',d::cs',nm⟩):=by unfold Hid;rw[HST.out,if_pos h12]
  clear HST h12 HCM HCC EN HY IU
  go_enter Tryz.func66,Tryz.ntmps66
  go_upto_region 1 with fail
  rw[HW1.out]
  clear HW1
  go_wp2_with fail
  refine CE.mono ?_
  rintro e w2⟨rfl,hb2,s',hs',hx⟩
  have HE:Hid (Ok (KK+1) B pb w (dZ ⟨nx,d0::bs',d::cs',nm⟩ ⟨tk,tm,ta,tb,tn,tg,ts,te⟩) (.returned (.int .i64 0)) w2):=⟨uj.out.trans hb2,.inr ⟨s',by rw[HS.out,hs'],rfl,hx⟩⟩
  clear hb2 hs' hx CE
  go_wp2
  go_ret
  exact HE.out
 have e12:(tk==12)=false:=by simpa using h12
 by_cases KO:tk=14
 ·have e14:(tk==14)=true:=by simp[KO]
  have HS:Hid (dZ ⟨nx,d0::bs',d::cs',nm⟩ ⟨tk,tm,ta,tb,tn,tg,ts,te⟩=.ok ⟨1,d0::bs',⟨d.neg,tm,d.inner,[]⟩::cs',nm⟩):=by unfold Hid;rw[HST.out,if_neg h12,if_pos KO]
  clear HST h12 KO HCM HCC EN HY
  go_enter Tryz.func66,Tryz.ntmps66
  go_upto_region 1 with fail
  rw[HW1.out]
  clear HW1
  go_upto_region 6 with fail
  refine wp_region_noPanic ?_
  refine aZ 4 (fun w'=>w'.cell? ⟨w.heap.size,1,none⟩=some (.int .i64 tm)) (by kernel_rfl) l1 (fun hHeld=>?_)
  refine jf (i:=0) (v:=?_) rfl (by kernel_rfl) (by kernel_rfl) (by kernel_rfl) (by decide) (fun _ _ _ h=>h) (Or.inl ⟨by rfl,?_⟩) (by assumption) ?_
  rotate_left
  ·(intro w' hSw;(try dsimp only at hSw);go_simp;try with_reducible rfl)
  try simp only[Act.put,lin.sm]
  refine jf (i:=2) (v:=?_) rfl (by kernel_rfl) (by kernel_rfl) (by kernel_rfl) (by decide) (fun _ _ _ h=>h) (Or.inl ⟨by rfl,?_⟩) (by assumption) ?_
  rotate_left
  ·(intro w' hSw;(try dsimp only at hSw);go_simp;try with_reducible rfl)
  try simp only[Act.put,lin.sm]
  refine gH 3 (v:=?_) rfl (by kernel_rfl) (fun _ _ _ h=>h) (by rfl) ?_ (by assumption) ?_
  rotate_left
  ·(intro w' hSw;(try dsimp only at hSw);go_simp;try with_reducible rfl)
  try simp only[Act.put,lin.sm]
  refine aG (j:=1) (by kernel_rfl) (by decide) rfl (fun K hK=>?_)
  go_simp
  refine(IU.out w1.drew (Below.refl _ _).drew).mono ?_
  rintro e w5⟨rfl,hb5⟩
  have kZ:Hid (Below w1.heap.size w1 w5):=((Below.refl _ w1).drew).trans hb5
  clear hb5
  refine hK.out _ _ ((eZ.out.on kZ.out).cell 1 rfl) (fun hHeld=>?_)
  clear hK K
  try simp only[Act.put,lin.sm]
  have hS5:=HH.out.below kZ.out
  rw[HCV.out]at hS5
  have jX:=dh tm hm hS5
  clear hS5
  refine aU (by kernel_rfl) rfl (fun K hK=>?_)
  go_simp
  refine jX.mono ?_
  rintro e w7⟨rfl,lI,s6,Ey⟩
  have tZ:Hid (Below B w w7):=(uj.out.trans (ae kZ.out uG)).trans lI
  have mV:Hid (Sx KK B w7 pb _ _ _ _ _ _):=Ey
  clear jX lI Ey
  refine hK.out _ _ ?_
  clear hK K
  try simp only[Act.put,lin.sm]
  refine wpAny_of_held (S:=fun _=>True) _ _ _ _ ?_
  have hHeld:=True.intro
  refine wpAnyH_done (by kernel_rfl) ?_ _
  refine NoPanic.normal ?_
  have x0:=mV.out.px.blk.cell 0 rfl
  have f0:=mV.out.px.blk.frozen 0
  clear hHeld
  go_wp2
  go_ret
  exact⟨tZ.out.setCell (by exact Eu) _,.inr ⟨_,HS.out,rfl,_,_,_,_,_,(mV.out.next 1).more (Nat.le_succ _)⟩⟩
 have e14:(tk==14)=false:=by simpa using KO
 by_cases h13:tk=13
 ·have e13:(tk==13)=true:=by simp[h13]
  have HCA1:Hid _:=IU.out w1 (Below.refl _ _)
  have bV:Hid (xk=1→dZ ⟨nx,d0::bs',d::cs',nm⟩ ⟨tk,tm,ta,tb,tn,tg,ts,te⟩=.ok ⟨3,d0::bs',d::cs',nm⟩):=fun h1=>by rw[HST.out,if_neg h12,if_neg KO,if_pos h13,if_pos h1]
  have HS2:Hid (¬xk=1→dZ ⟨nx,d0::bs',d::cs',nm⟩ ⟨tk,tm,ta,tb,tn,tg,ts,te⟩=.error 133):=fun h1=>by rw[HST.out,if_neg h12,if_neg KO,if_pos h13,if_neg h1]
  clear IU HST h12 KO h13 HCM HCC
  go_enter Tryz.func66,Tryz.ntmps66
  go_upto_region 1 with fail
  rw[HW1.out]
  clear HW1
  have CA:Calls Tryz.prog 64 #[.pointer (some ⟨pb,0,none⟩)] w1 _:=HCA1.out
  go_upto_region 10 with fail
  go_wp2_with fail
  refine CA.mono ?_
  rintro e w2⟨rfl,hb2⟩
  go_wp2_with fail
  refine(EN.out w2 hb2).mono ?_
  rintro e w3⟨rfl,hb3⟩
  have HB3:Hid (Below w1.heap.size w1 w3):=hb2.trans (ae hb3 hb2.size)
  have jd:Hid (Below B w w3):=uj.out.trans (ae HB3.out uG)
  have y0:=HY.out w3 HB3.out
  have HS3:=HH.out.below HB3.out
  have x0:=HS3.px.blk.cell 0 rfl
  have f0:=HS3.px.blk.frozen 0
  have yA:=nL HS3
  clear hb2 hb3 CA HS3
  by_cases h1:xk=1
  ·have k1:(xk==1)=true:=by simp[h1]
   have k2:(xk !=1)=false:=by simp[h1]
   have HS:=nL (bV.out h1)
   clear EN HY h1 bV HS2
   go_wp2
   go_ret
   exact⟨jd.out.setCell (by exact Eu) _,.inr ⟨_,HS.out,rfl,_,_,_,_,_,(yA.out.next 3).more (Nat.le_succ _)⟩⟩
  ·have k1:(xk==1)=false:=by simpa using h1
   have k2:(xk !=1)=true:=by simp[h1]
   have HE:Hid (Ok (KK+1) B pb w (dZ ⟨nx,d0::bs',d::cs',nm⟩ ⟨tk,tm,ta,tb,tn,tg,ts,te⟩) (.returned (.int .i64 133)) w3):=⟨jd.out,.inl ⟨133,HS2.out h1,rfl,(HH.out.below HB3.out).px.gh⟩⟩
   clear EN HY bV HS2
   go_wp2
   go_ret
   exact HE.out
 have e13:(tk==13)=false:=by simpa using h13
 have HS:Hid (dZ ⟨nx,d0::bs',d::cs',nm⟩ ⟨tk,tm,ta,tb,tn,tg,ts,te⟩=memS ⟨nx,d0::bs',d::cs',nm⟩ ⟨tk,tm,ta,tb,tn,tg,ts,te⟩):=by unfold Hid;rw[HST.out,if_neg h12,if_neg KO,if_neg h13]
 have CE:Calls Tryz.prog 44 #[.pointer (some ⟨pb,0,none⟩),.agg #[.int .i64 tk,.int .i64 tm,.int .i64 ta,.int .i64 tb,.string X,.bool tg,.int .i64 ts,.int .i64 te]] w1 _:=HCM.out
 clear HST h12 KO h13 HCM HCC EN HY IU
 go_enter Tryz.func66,Tryz.ntmps66
 go_upto_region 1 with fail
 rw[HW1.out]
 clear HW1
 go_wp2_with fail
 refine CE.mono ?_
 rintro e w2 hok
 have HO:=hok.back uj.out
 rw[←HS.out]at HO
 clear hok CE
 rcases HO with⟨hb,⟨c,hc,rfl,hgh⟩|⟨s',hs',rfl,hx⟩⟩
 ·have HE:Hid (Ok (KK+1) B pb w (dZ ⟨nx,d0::bs',d::cs',nm⟩ ⟨tk,tm,ta,tb,tn,tg,ts,te⟩) (.returned (.int .i64 c)) w2):=⟨hb,.inl ⟨c,hc,rfl,hgh⟩⟩
  clear hb hc
  go_wp2
  go_ret
  exact HE.out
 ·have HE:Hid (Ok (KK+1) B pb w (dZ ⟨nx,d0::bs',d::cs',nm⟩ ⟨tk,tm,ta,tb,tn,tg,ts,te⟩) (.returned (.int .i64 0)) w2):=⟨hb,.inr ⟨s',hs',rfl,hx⟩⟩
  clear hb hs' hx
  go_wp2
  go_ret
  exact HE.out
end Go.Proofs.YtgbkolonhddolaaGreatDoor.prs
