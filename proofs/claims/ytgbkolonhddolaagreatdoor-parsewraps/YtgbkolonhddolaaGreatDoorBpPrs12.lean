import Derived.Test.YtgbkolonhddolaaGreatDoorBpPrs11
set_option linter.unusedSectionVars false
set_option linter.unusedSimpArgs false
set_option linter.unusedVariables false
set_option maxRecDepth 100000
set_option maxHeartbeats 8000000
theorem Go.Proofs.YtgbkolonhddolaaGreatDoor.kT{p:Prop}(h:p):Go.RowKit.Hid p:=h
namespace Go.Proofs.YtgbkolonhddolaaGreatDoor.prs
open Go.RowKit nod tok
open rng(R RV info_parts)
open lin(BA)
variable[gh:Gh]
theorem zo{KK B:Nat}{w:World}{pb nx bs cs nm b bl cl bv cv nv}(t:Tk)(ht:tV t)(h:Sx KK B w pb ⟨nx,bs,cs,nm⟩ (b::bl) cl bv cv nv)(hKb:KK≤100000)(hmd:(t.mode==0)=true∨(t.mode==0)=false∧(t.mode==2)=true):
    Calls Tryz.prog 26 #[.pointer (some ⟨pb,0,none⟩),oO t] w fun e w'=>Ok (KK+1) B pb w (dN ⟨nx,bs,cs,nm⟩ t) e w':=by
  obtain⟨i0,hi,hz0,hz1,hz2⟩:=info_parts zL
  obtain⟨j0,hj,hj0,hj1,hj2⟩:=info_parts mF
  have fF:=h.base
  have hpb:=h.px.blk.lt
  have HT:Hid (tV t):=ht
  have HNU:Hid (numbered t=true):=by
    unfold Hid numbered
    rcases hmd with e|⟨e,e'⟩
    · rw[e];rfl
    · rw[e,e'];rfl
  obtain⟨tk,tm,ta,tb,tn,tg,ts,te⟩:=t
  unfold oO
  simp only at hmd HT HNU⊢
  obtain⟨X,hX⟩:∃X,BA tn=X:=⟨_,rfl⟩
  have HX:Hid (X=BA tn):=hX.symm
  rw[hX]
  have B1:Below w.heap.size w (w.alloc (.cells #[.int .i64 tk,.int .i64 tm,.int .i64 ta,.int .i64 tb,.string X,.bool tg,.int .i64 ts,.int .i64 te] 66)):=(Below.refl _ w).alloc (Nat.le_refl _) _
  have eZ:Hid (Bk (w.alloc (.cells #[.int .i64 tk,.int .i64 tm,.int .i64 ta,.int .i64 tb,.string X,.bool tg,.int .i64 ts,.int .i64 te] 66)) w.heap.size #[.int .i64 tk,.int .i64 tm,.int .i64 ta,.int .i64 tb,.string X,.bool tg,.int .i64 ts,.int .i64 te] 66):=Bk.new w _ _
  have hs1:(w.alloc (.cells #[.int .i64 tk,.int .i64 tm,.int .i64 ta,.int .i64 tb,.string X,.bool tg,.int .i64 ts,.int .i64 te] 66)).heap.size=w.heap.size+1:=by simp
  obtain⟨w1,hw1⟩:∃w1,w.alloc (.cells #[.int .i64 tk,.int .i64 tm,.int .i64 ta,.int .i64 tb,.string X,.bool tg,.int .i64 ts,.int .i64 te] 66)=w1:=⟨_,rfl⟩
  have HW1:=kT hw1
  rw[hw1]at B1 eZ hs1
  have CD:=(h.below B1).depth hKb
  have HB1:Hid (Below w.heap.size w w1):=B1
  have HH:=kT h
  obtain⟨na,n,nc,hnv,hnn,hn,hno⟩:=h.names hKb
  simp only at hnn hno
  have HNV:Hid (nv=.slice na n nc):=hnv
  have IM:Hid (nm.length=n):=hnn
  have ru:=kT hno
  have zR:=h.px.bo
  obtain⟨ba,bc,hbv⟩:=cZ zR
  have hlb:=h.lb
  simp only[List.length_cons]at hlb hbv
  obtain⟨m,hm⟩:∃m,bl.length+1=m:=⟨_,rfl⟩
  rw[hm]at hbv hlb
  have HM:Hid ((b::bl).length=m):=by simpa[Hid]using hm
  have wG:Hid (bv=.slice ba m bc):=hbv
  obtain⟨ce,hce⟩:∃ce,decide (tn∈nm)=ce:=⟨_,rfl⟩
  have HCE:Hid (decide (tn∈nm)=ce):=hce
  have kN:Hid (∀w',Below w.heap.size w w'→Calls Tryz.prog 40 #[.slice na n nc,.string X] w' fun e w''=>e=.returned (.bool ce)∧w''=w'):=fun w' hb=>by rw[←hce,←hX];exact oH tn (hno w' hb).1 hnn (by omega)
  obtain⟨D,hD⟩:∃D,PS.depth ⟨nx,bs,cs,nm⟩=D:=⟨_,rfl⟩
  rw[hD]at CD
  obtain⟨xe,hxe⟩:∃xe,X.toList.isEmpty=xe:=⟨_,rfl⟩
  have HE2:Hid (X.toList.isEmpty=xe):=hxe
  have Ma:Hid (xe=true↔tn=[]):=by
    unfold Hid
    rw[←hxe,←hX]
    by_cases he:tn=[]
    · subst he;rw[Lib.toList_data];exact⟨fun _=>rfl,fun _=>rfl⟩
    · rw[uf he];exact⟨fun e=>Bool.noConfusion e,fun e=>absurd e he⟩
  obtain⟨R,hR⟩:∃R,dN ⟨nx,bs,cs,nm⟩ ⟨tk,tm,ta,tb,tn,tg,ts,te⟩=R:=⟨_,rfl⟩
  have HST:Hid (R=if D=50 then .error 153 else if tn≠[]∧tn∈nm then .error 151 else if n=20 then .error 4 else .ok ⟨nx,⟨kJ ⟨tk,tm,ta,tb,tn,tg,ts,te⟩ (n+1),[],[]⟩::bs,cs,(nm++[tn])⟩):=by
    unfold Hid
    rw[←hR]
    show(if PS.depth ⟨nx,bs,cs,nm⟩=50 then(Except.error 153:Except Int PS)else if tn≠[]∧tn∈nm then .error 151 else if numbered ⟨tk,tm,ta,tb,tn,tg,ts,te⟩∧nm.length=20 then .error 4 else .ok ⟨nx,⟨kJ ⟨tk,tm,ta,tb,tn,tg,ts,te⟩ (if numbered ⟨tk,tm,ta,tb,tn,tg,ts,te⟩then nm++[tn]else nm).length,[],[]⟩::bs,cs,if numbered ⟨tk,tm,ta,tb,tn,tg,ts,te⟩then nm++[tn]else nm⟩)=_
    rw[HNU.out,hD,IM.out]
    simp[IM.out]
  rw[hR]
  clear hw1 B1 h hnv hnn hno zR hbv hm hD hce hX ht HNU hxe hR
  go_enter Tryz.func26,Tryz.ntmps26
  rcases hmd with e0|⟨e0,e2⟩
  all_goals
    go_upto_region 1 with fail
    rw[HW1.out]
    have c1:=eZ.out.cell 1 (u:=.int .i64 tm) rfl
    go_wp2_with fail
    clear c1 e0
    try clear e2
    refine CD.mono ?_
    rintro e w2⟨rfl,hb2⟩
    have HB2:Hid (Below w.heap.size w w2):=HB1.out.trans (ae hb2 (by omega))
    have hs2:=hb2.size
    have qZ:=kT (eZ.out.on hb2)
    clear hb2 CD eZ HW1
    by_cases h50:D=50
    · subst h50
      have HF:Hid (Ok (KK+1) B pb w R (.returned (.int .i64 153)) w2):=⟨ae HB2.out fF,.inl ⟨153,by rw[HST.out,if_pos rfl],rfl,(HH.out.below HB2.out).px.gh⟩⟩
      clear qZ HH kN HST ru
      go_wp2
      go_ret
      exact HF.out
    have hD0:(((D:Nat):Int)==50)=false:=by simp;omega
    replace HST:Hid (R=if tn≠[]∧tn∈nm then .error 151 else if n=20 then .error 4 else .ok ⟨nx,⟨kJ ⟨tk,tm,ta,tb,tn,tg,ts,te⟩ (n+1),[],[]⟩::bs,cs,(nm++[tn])⟩):=by unfold Hid;rw[HST.out,if_neg h50]
    clear h50
    go_upto_region 4 with fail
    have HB3:Hid (Below w.heap.size w w2.drew):=HB2.out.drew
    have DD:Hid (Bk w2.drew w.heap.size #[.int .i64 tk,.int .i64 tm,.int .i64 ta,.int .i64 tb,.string X,.bool tg,.int .i64 ts,.int .i64 te] 66):=qZ.out.on (Below.refl _ w2).drew
    have x3:=(ru.out w2 HB2.out).2
    have c4:=qZ.out.cell 4 (u:=.string X) rfl
    refine lin.UH.begin (S:=fun w'=>w'.cell? ⟨pb,3,none⟩=some (.slice na n nc)∧w'.cell? ⟨w.heap.size,4,none⟩=some (.string X)) (by kernel_rfl) ⟨x3,c4⟩ (fun hHeld=>?_)
    clear x3 c4 qZ HB2 hs2
    generalize w2.drew=w3 at*
    cases xe
    all_goals
      have hXn:=HE2.out
      iterate 3
        refine lin.UH.take (v:=?_) rfl (by kernel_rfl) (fun _ _ _ h=>h) (by rfl) ?_ (by assumption) ?_
        rotate_left
        · (intro w' hSw;(try dsimp only at hSw);go_simp;try with_reducible rfl)
        try simp only[Act.put,lin.sm,hXn,Bool.not_false,Bool.not_true]
      clear hXn
      refine lin.UH.take (v:=?_) rfl (by kernel_rfl) (fun _ _ _ h=>h) (by rfl) ?_ (by assumption) ?_
      rotate_left
      · (intro w' hSw;(try dsimp only at hSw);go_simp;try with_reducible rfl)
      try simp only[Act.put,lin.sm]
      first
      | iterate 6
          refine lin.UH.take (v:=?_) rfl (by kernel_rfl) (fun _ _ _ h=>h) (by rfl) ?_ (by assumption) ?_
          rotate_left
          · (intro w' hSw;(try dsimp only at hSw);go_simp;try with_reducible rfl)
          try simp only[Act.put,lin.sm]
        refine lin.UH.one (by kernel_rfl) rfl (fun K hK=>?_)
        have CX:=kN.out w3 HB3.out
        go_simp
        refine CX.mono ?_
        rintro e w4⟨rfl,hw4⟩
        obtain rfl:=hw4.symm
        clear CX
        refine hK.out _ _ hHeld (fun jm=>?_)
        clear hK K jm
        try simp only[Act.put,lin.sm]
      |iterate 7
          refine lin.UH.skip rfl (by kernel_rfl) (fun _ _ _ h=>h) (by kernel_rfl) (by assumption) ?_
          try simp only[Act.put,lin.sm]
      iterate 2
        refine lin.UH.take (v:=?_) rfl (by kernel_rfl) (fun _ _ _ h=>h) (by rfl) ?_ (by assumption) ?_
        rotate_left
        · (intro w' hSw;(try dsimp only at hSw);go_simp;try with_reducible rfl)
        try simp only[Act.put,lin.sm]
      refine lin.UH.fin (by kernel_rfl) ?_
      clear hHeld kN
      first
      | have he:tn≠[]:=fun h=>by have:=Ma.out.2 h;cases this
        have xX:=HCE.out
        cases ce
        rotate_left
        · have HF:Hid (Ok (KK+1) B pb w R (.returned (.int .i64 151)) w3):=⟨ae HB3.out fF,.inl ⟨151,by rw[HST.out,if_pos ⟨he,of_decide_eq_true xX⟩],rfl,(HH.out.below HB3.out).px.gh⟩⟩
          clear DD HH HST ru HCE xX he
          go_wp2
          go_ret
          exact HF.out
        replace HST:Hid (R=if n=20 then .error 4 else .ok ⟨nx,⟨kJ ⟨tk,tm,ta,tb,tn,tg,ts,te⟩ (n+1),[],[]⟩::bs,cs,(nm++[tn])⟩):=by unfold Hid;rw[HST.out,if_neg (fun hh=>of_decide_eq_false xX hh.2)]
        clear xX he
      |replace HST:Hid (R=if n=20 then .error 4 else .ok ⟨nx,⟨kJ ⟨tk,tm,ta,tb,tn,tg,ts,te⟩ (n+1),[],[]⟩::bs,cs,(nm++[tn])⟩):=by unfold Hid;rw[HST.out,if_neg (fun hh=>hh.1 (Ma.out.1 rfl))]
      clear HCE
      have Mj:Hid (some w.heap.size=(Value.slice ba m bc).ownBlock→False):=fun e=>by have:=(HH.out.px.bo.lt w.heap.size (by rw[wG.out];exact e.symm)).2;omega
      have x3:=(ru.out w3 HB3.out).2
      have HB0:Hid (Below B w w3):=ae HB3.out fF
      have HS0:=kT (HH.out.below HB3.out)
      by_cases h20:n=20
      · have HF:Hid (Ok (KK+1) B pb w R (.returned (.int .i64 4)) w3):=⟨HB0.out,.inl ⟨4,by rw[HST.out,if_pos h20],rfl,HS0.out.px.gh⟩⟩
        have d20:((n:Int)==20)=true:=by simp[h20]
        clear DD HH HST ru HS0 h20
        go_wp2
        go_ret
        exact HF.out
      replace HST:Hid (R=.ok ⟨nx,⟨kJ ⟨tk,tm,ta,tb,tn,tg,ts,te⟩ (n+1),[],[]⟩::bs,cs,(nm++[tn])⟩):=by unfold Hid;rw[HST.out,if_neg h20]
      have d20:((n:Int)==20)=false:=by simp;omega
      clear h20
      go_upto_region 9 with fail
      clear d20
      have c4:=DD.out.cell 4 (u:=.string X) rfl
      have BW:Below w3.heap.size w3 (w3.drew.alloc (.cells #[.string X] 9)):=((Below.refl _ w3).drew).alloc (Nat.le_refl _) _
      have jd:=kT BW
      have HBX:Hid (Below w.heap.size w (w3.drew.alloc (.cells #[.string X] 9))):=HB3.out.trans (ae BW (by have:=HB3.out.size;omega))
      have x3':=(ru.out _ HBX.out).2
      have TB4:=kT (DD.out.on BW)
      have c4':=TB4.out.cell 4 (u:=.string X) rfl
      have yB:Hid (∀(j:Nat)u,([.string X]:List Value)[j]?=some u→(w3.drew.alloc (.cells #[.string X] 9)).cell? ((⟨w3.heap.size,0,none⟩:Addr).add j)=some u):=fun j u hj=>by
        have b4:Bk (w3.drew.alloc (.cells #[.string X] 9)) w3.heap.size #[.string X] 9:=Bk.new w3.drew _ _
        rw[Addr.add_lit]
        simpa using b4.cell j (u:=u) (by simpa using hj)
      have wI:Hid (n+1≤maxLen):=by unfold Hid maxLen;omega
      have wF:Hid ((n+1)*16≤140737488355328):=by unfold Hid;omega
      have Iy:Hid (B≤w3.heap.size):=Nat.le_trans fF HB3.out.size
      clear BW DD
      refine UK.begin 11 (fun w'=>w'.cell? ⟨pb,3,none⟩=some (.slice na n nc)∧w'.cell? ⟨w.heap.size,4,none⟩=some (.string X)) (by kernel_rfl) ⟨x3,c4⟩ (fun hHeld=>?_)
      iterate 7
        refine UK.take (v:=?_) rfl (by kernel_rfl) (fun _ _ _ h=>h) (by rfl) ?_ (by assumption) ?_
        rotate_left
        · (intro w' hSw;(try dsimp only at hSw);go_simp;try with_reducible rfl)
        try simp only[Act.put,lin.sm]
      refine UK.one (by kernel_rfl) rfl (fun K hK=>?_)
      go_simp
      refine hK.out _ _ ?_ (fun hHeld=>?_)
      · exact⟨x3',c4'⟩
      clear hK K
      try simp only[Act.put,lin.sm]
      refine UK.one (by kernel_rfl) rfl (fun K hK=>?_)
      refine step_append_lies _ rfl _ _ 62 rfl B 9 j0 (.string ⟨#[]⟩) 1 16 Tryz.underlying62 hj hj0 hj1 hj2 rfl (by decide) (.slice na n nc) n (nm.map sN) (by simp[Act.eval,Act.put]) (ru.out _ HBX.out).1 ⟨w3.heap.size,0,none⟩ 1 1 [.string X] (by simp[Act.eval,Act.put]) rfl yB.out (by intro u hu;simp only[List.mem_cons,List.mem_nil_iff,or_false]at hu;rcases hu with rfl;rfl) (by decide) wI.out wF.out (by simp;exact Nat.le_succ_of_le Iy.out) _ rfl ?_
      intro g5 cq w5 hown5 bQ kU Ct
      obtain⟨hS,⟨q3,r3⟩,hbl⟩:=HS0.out.FW (g5:=g5) (c:=cq) (x:=tn) jd.out (by rw[IM.out,show sN tn=.string X by rw[HX.out];rfl];exact hown5) (by rw[HNV.out];exact bQ)
      rw[HNV.out]at q3
      simp only[IM.out]at hS hbl
      have TB5:Bk w5 w.heap.size #[.int .i64 tk,.int .i64 tm,.int .i64 ta,.int .i64 tb,.string X,.bool tg,.int .i64 ts,.int .i64 te] 66:=(bQ.block w.heap.size TB4.out.lt (fun e=>by have:=(HH.out.px.no.lt w.heap.size (by rw[HNV.out];exact e.symm)).2;omega)).trans TB4.out
      have k4:=TB5.cell 4 (u:=.string X) rfl
      have wE:Hid (Bk (w5.setCell ⟨pb,3,none⟩ (.slice (some ⟨g5,0,none⟩) (n+1) cq)) w.heap.size #[.int .i64 tk,.int .i64 tm,.int .i64 ta,.int .i64 tb,.string X,.bool tg,.int .i64 ts,.int .i64 te] 66):=TB5.apart (by omega) _
      have nO:=kT hS
      have ES:=kT (HB0.out.trans hbl)
      clear hown5 bQ kU hS hbl yB TB5
      refine hK.out _ _ ⟨q3,k4⟩ (fun hHeld=>?_)
      clear hK K
      try simp only[Act.put,lin.sm]
      refine UK.one (by kernel_rfl) rfl (fun K hK=>?_)
      go_simp
      refine hK.out _ _ ?_ (fun hHeld=>?_)
      · exact hHeld
      clear hK K
      try simp only[Act.put,lin.sm]
      refine UK.take (v:=?_) rfl (by kernel_rfl) (fun _ _ _ h=>h) (by rfl) ?_ (by assumption) ?_
      rotate_left
      · (intro w' hSw;(try dsimp only at hSw);go_simp;try with_reducible rfl)
      try simp only[Act.put,lin.sm]
      refine UK.last (by kernel_rfl) rfl (fun K hK=>?_)
      go_simp
      refine hK.out _ _ ?_
      clear hK K
      try simp only[Act.put,lin.sm]
      have hHeld:=True.intro
      refine lin.UH.fin (by kernel_rfl) ?_
      clear hHeld q3 r3 k4 x3 x3' c4 c4' TB4 jd HBX HH ru HS0 HB0 Iy wI wF
      obtain⟨V,hV⟩:∃V:Value,(.slice (some ⟨g5,0,none⟩) (n+1) cq)=V:=⟨_,rfl⟩
      have HV:Hid (V=(.slice (some ⟨g5,0,none⟩) (n+1) cq)):=hV.symm
      rw[hV]at wE nO ES⊢
      clear hV
      generalize w5.setCell ⟨pb,3,none⟩ V=w6 at*
      have yC:Hid ((nm++[tn]).length=n+1):=by show(nm++[tn]).length=n+1;rw[List.length_append,IM.out];rfl
      have HNV6:=kT HV.out
      go_upto_region 10 with fail
      have x1:=nO.out.px.blk.cell 1 (u:=bv) rfl
      rw[wG.out]at x1
      have mV:Hid (∀w',Below w6.heap.size w6 w'→w'.cell? ⟨pb,1,none⟩=some (.slice ba m bc)∧w'.cell? ⟨w.heap.size,0,none⟩=some (.int .i64 tk)∧w'.cell? ⟨w.heap.size,1,none⟩=some (.int .i64 tm)∧w'.cell? ⟨w.heap.size,2,none⟩=some (.int .i64 ta)∧w'.cell? ⟨w.heap.size,3,none⟩=some (.int .i64 tb)∧w'.cell? ⟨w.heap.size,4,none⟩=some (.string X)∧w'.cell? ⟨w.heap.size,5,none⟩=some (.bool tg)∧w'.cell? ⟨w.heap.size,6,none⟩=some (.int .i64 ts)∧w'.cell? ⟨w.heap.size,7,none⟩=some (.int .i64 te)):=fun w' hb=>⟨by have:=(nO.out.px.blk.on hb).cell 1 (u:=bv) rfl;rwa[wG.out]at this,(wE.out.on hb).cell 0 rfl,(wE.out.on hb).cell 1 rfl,(wE.out.on hb).cell 2 rfl,(wE.out.on hb).cell 3 rfl,(wE.out.on hb).cell 4 rfl,(wE.out.on hb).cell 5 rfl,(wE.out.on hb).cell 6 rfl,(wE.out.on hb).cell 7 rfl⟩
      have yc:=qD ⟨tk,tm,ta,tb,tn,tg,ts,te⟩ w6.drew pb (nextV pb nx) bv cv (some ⟨g5,0,none⟩) (n+1) cq (by have:=nO.out.px.blk.on (Below.refl _ w6).drew;rwa[HNV6.out]at this)
      unfold oO at yc
      simp only at yc
      rw[←HX.out]at yc
      obtain⟨⟨yk,ym,ya,yn⟩,hy⟩:∃y,oQ ⟨tk,tm,ta,tb,tn,tg,ts,te⟩ (n+1)=y:=⟨_,rfl⟩
      have HY:=kT hy
      rw[hy]at yc
      unfold a8b at yc
      simp only at yc
      obtain⟨Y,hYY⟩:∃Y,BA yn=Y:=⟨_,rfl⟩
      have HYY:Hid (BA yn=Y):=hYY
      rw[hYY]at yc
      have wI:Hid (m+1≤maxLen):=by unfold Hid maxLen;omega
      have wF:Hid ((m+1)*152≤140737488355328):=by unfold Hid;omega
      clear hy hYY wE
      refine UK.begin 13 (fun w'=>w'.cell? ⟨pb,1,none⟩=some (.slice ba m bc)∧w'.cell? ⟨w.heap.size,0,none⟩=some (.int .i64 tk)∧w'.cell? ⟨w.heap.size,1,none⟩=some (.int .i64 tm)∧w'.cell? ⟨w.heap.size,2,none⟩=some (.int .i64 ta)∧w'.cell? ⟨w.heap.size,3,none⟩=some (.int .i64 tb)∧w'.cell? ⟨w.heap.size,4,none⟩=some (.string X)∧w'.cell? ⟨w.heap.size,5,none⟩=some (.bool tg)∧w'.cell? ⟨w.heap.size,6,none⟩=some (.int .i64 ts)∧w'.cell? ⟨w.heap.size,7,none⟩=some (.int .i64 te)) (by kernel_rfl) (mV.out _ (Below.refl _ _).drew) (fun hHeld=>?_)
      iterate 7
        refine UK.take (v:=?_) rfl (by kernel_rfl) (fun _ _ _ h=>h) (by rfl) ?_ (by assumption) ?_
        rotate_left
        · (intro w' hSw;(try dsimp only at hSw);go_simp;try with_reducible rfl)
        try simp only[Act.put,lin.sm]
      refine UK.one (by kernel_rfl) rfl (fun K hK=>?_)
      go_simp
      refine yc.mono ?_
      rintro e w7⟨rfl,lI⟩
      have tZ:Hid (Below w6.heap.size w6 w7):=((Below.refl _ w6).drew).trans lI
      clear lI yc
      refine hK.out _ _ (mV.out _ tZ.out) (fun hHeld=>?_)
      clear hK K
      try simp only[Act.put,lin.sm]
      refine UK.take (v:=?_) rfl (by kernel_rfl) (fun _ _ _ h=>h) (by rfl) ?_ (by assumption) ?_
      rotate_left
      · (intro w' hSw;(try dsimp only at hSw);go_simp;try with_reducible rfl)
      try simp only[Act.put,lin.sm]
      have nD:Hid (Below w6.heap.size w6 (w7.alloc (.cells #[.int .i64 yk,.int .i64 ym,.int .i64 ya,.int .i64 0,.bool false,.string Y,.slice none 0 0,.slice none 0 0,.slice none 0 0,.slice none 0 0] 58))):=tZ.out.alloc tZ.out.size _
      have yB:Hid (∀(j:Nat)u,(c10 (pK ⟨yk,ym,ya,yn⟩))[j]?=some u→(w7.alloc (.cells #[.int .i64 yk,.int .i64 ym,.int .i64 ya,.int .i64 0,.bool false,.string Y,.slice none 0 0,.slice none 0 0,.slice none 0 0,.slice none 0 0] 58)).cell? ((⟨w7.heap.size,0,none⟩:Addr).add j)=some u):=fun j u hj=>by
        have b4:Bk (w7.alloc (.cells #[.int .i64 yk,.int .i64 ym,.int .i64 ya,.int .i64 0,.bool false,.string Y,.slice none 0 0,.slice none 0 0,.slice none 0 0,.slice none 0 0] 58)) w7.heap.size #[.int .i64 yk,.int .i64 ym,.int .i64 ya,.int .i64 0,.bool false,.string Y,.slice none 0 0,.slice none 0 0,.slice none 0 0,.slice none 0 0] 58:=Bk.new w7 _ _
        rw[Addr.add_lit]
        simpa using b4.cell j (u:=u) (by simpa[c10,pK,HYY.out]using hj)
      have HBS:Hid (B≤w7.heap.size):=Nat.le_trans nO.out.base tZ.out.size
      refine UK.one (by kernel_rfl) rfl (fun K hK=>?_)
      go_simp
      refine hK.out _ _ ?_ (fun hHeld=>?_)
      · exact mV.out _ nD.out
      clear hK K
      try simp only[Act.put,lin.sm]
      refine UK.one (by kernel_rfl) rfl (fun K hK=>?_)
      refine step_append_lies _ rfl _ _ 59 rfl B 58 i0 (.agg #[.int .i64 0,.int .i64 0,.int .i64 0,.int .i64 0,.bool false,.string ⟨#[]⟩,.slice none 0 0,.slice none 0 0,.slice none 0 0,.slice none 0 0]) 10 152 Tryz.underlying59 hi hz0 hz1 hz2 rfl (by decide) (.slice ba m bc) m (dm c10 (b::bl).reverse) (by simp[Act.eval,Act.put]) (by have:=rng.own_below' nO.out.px.bo nD.out;rwa[wG.out,HM.out]at this) ⟨w7.heap.size,0,none⟩ 1 1 (c10 (pK ⟨yk,ym,ya,yn⟩)) (by simp[Act.eval,Act.put]) rfl yB.out (by intro u hu;simp only[c10,pK,List.mem_cons,List.mem_nil_iff,or_false]at hu;rcases hu with rfl|rfl|rfl|rfl|rfl|rfl|rfl|rfl|rfl|rfl<;>rfl) (by decide) wI.out wF.out (by simp;exact Nat.le_succ_of_le HBS.out) _ rfl ?_
      intro g9 cr w9 zM nK hat9 hlt9
      obtain⟨hS,⟨q1,r1⟩,hbl⟩:=nO.out.vD (g5:=g9) (c:=cr) (y:=⟨yk,ym,ya,yn⟩) (t:=⟨tk,tm,ta,tb,tn,tg,ts,te⟩) (by have:=HM.out;simp only[List.length_cons]at this⊢;omega) HT.out (by simp only[yC.out];exact HY.out.symm) (by omega) nD.out (by rw[HM.out];exact zM) (by rw[wG.out];exact nK)
      rw[wG.out]at q1
      simp only[HM.out,yC.out]at hS hbl
      have HF:Hid (Ok (KK+1) B pb w R (.returned (.int .i64 0)) (w9.setCell ⟨pb,1,none⟩ (.slice (some ⟨g9,0,none⟩) (m+1) cr))):=⟨ES.out.trans hbl,.inr ⟨_,HST.out,rfl,_,_,_,_,_,hS⟩⟩
      have k:=mV.out
      have xy:∀j(hj:j<8)u,(w7.alloc (.cells #[.int .i64 yk,.int .i64 ym,.int .i64 ya,.int .i64 0,.bool false,.string Y,.slice none 0 0,.slice none 0 0,.slice none 0 0,.slice none 0 0] 58)).cell? ⟨w.heap.size,j,none⟩=some u→w9.cell? ⟨w.heap.size,j,none⟩=some u:=fun j hj u hu=>(World.cell?_of_block (a:=⟨w.heap.size,j,none⟩) (nK.block w.heap.size (by have:=World.block_lt_of_cell? _ _ hu;exact this) (fun e=>Mj.out e))).trans hu
      have HS9:w9.cell? ⟨pb,1,none⟩=some (.slice ba m bc)∧w9.cell? ⟨w.heap.size,0,none⟩=some (.int .i64 tk)∧w9.cell? ⟨w.heap.size,1,none⟩=some (.int .i64 tm)∧w9.cell? ⟨w.heap.size,2,none⟩=some (.int .i64 ta)∧w9.cell? ⟨w.heap.size,3,none⟩=some (.int .i64 tb)∧w9.cell? ⟨w.heap.size,4,none⟩=some (.string X)∧w9.cell? ⟨w.heap.size,5,none⟩=some (.bool tg)∧w9.cell? ⟨w.heap.size,6,none⟩=some (.int .i64 ts)∧w9.cell? ⟨w.heap.size,7,none⟩=some (.int .i64 te):=⟨q1,xy 0 (by decide) _ (k _ nD.out).2.1,xy 1 (by decide) _ (k _ nD.out).2.2.1,xy 2 (by decide) _ (k _ nD.out).2.2.2.1,xy 3 (by decide) _ (k _ nD.out).2.2.2.2.1,xy 4 (by decide) _ (k _ nD.out).2.2.2.2.2.1,xy 5 (by decide) _ (k _ nD.out).2.2.2.2.2.2.1,xy 6 (by decide) _ (k _ nD.out).2.2.2.2.2.2.2.1,xy 7 (by decide) _ (k _ nD.out).2.2.2.2.2.2.2.2⟩
      clear k xy zM nK hat9 hS hbl
      refine hK.out _ _ HS9 (fun hHeld=>?_)
      clear hK K
      try simp only[Act.put,lin.sm]
      refine UK.one (by kernel_rfl) rfl (fun K hK=>?_)
      go_simp
      refine hK.out _ _ ?_ (fun hHeld=>?_)
      · exact hHeld
      clear hK K
      try simp only[Act.put,lin.sm]
      refine UK.take (v:=?_) rfl (by kernel_rfl) (fun _ _ _ h=>h) (by rfl) ?_ (by assumption) ?_
      rotate_left
      · (intro w' hSw;(try dsimp only at hSw);go_simp;try with_reducible rfl)
      try simp only[Act.put,lin.sm]
      refine UK.last (by kernel_rfl) rfl (fun K hK=>?_)
      go_simp
      refine hK.out _ _ ?_
      clear hK K
      try simp only[Act.put,lin.sm]
      have hHeld:=True.intro
      refine lin.UH.fin (by kernel_rfl) ?_
      clear hHeld HS9
      go_wp2
      go_ret
      exact HF.out
theorem JO{KK B:Nat}{w:World}{pb nx bs cs nm b bl cl bv cv nv}(t:Tk)(ht:tV t)(h:Sx KK B w pb ⟨nx,bs,cs,nm⟩ (b::bl) cl bv cv nv)(hKb:KK≤100000)(hmd:(t.mode==0)=false∧(t.mode==2)=false):
    Calls Tryz.prog 26 #[.pointer (some ⟨pb,0,none⟩),oO t] w fun e w'=>Ok (KK+1) B pb w (dN ⟨nx,bs,cs,nm⟩ t) e w':=by
  obtain⟨i0,hi,hz0,hz1,hz2⟩:=info_parts zL
  obtain⟨j0,hj,hj0,hj1,hj2⟩:=info_parts mF
  have fF:=h.base
  have hpb:=h.px.blk.lt
  have HT:Hid (tV t):=ht
  have HNU:Hid (numbered t=false):=by
    unfold Hid numbered
    rw[hmd.1,hmd.2];rfl
  obtain⟨tk,tm,ta,tb,tn,tg,ts,te⟩:=t
  unfold oO
  simp only at hmd HT HNU⊢
  obtain⟨X,hX⟩:∃X,BA tn=X:=⟨_,rfl⟩
  have HX:Hid (X=BA tn):=hX.symm
  rw[hX]
  have B1:Below w.heap.size w (w.alloc (.cells #[.int .i64 tk,.int .i64 tm,.int .i64 ta,.int .i64 tb,.string X,.bool tg,.int .i64 ts,.int .i64 te] 66)):=(Below.refl _ w).alloc (Nat.le_refl _) _
  have eZ:Hid (Bk (w.alloc (.cells #[.int .i64 tk,.int .i64 tm,.int .i64 ta,.int .i64 tb,.string X,.bool tg,.int .i64 ts,.int .i64 te] 66)) w.heap.size #[.int .i64 tk,.int .i64 tm,.int .i64 ta,.int .i64 tb,.string X,.bool tg,.int .i64 ts,.int .i64 te] 66):=Bk.new w _ _
  have hs1:(w.alloc (.cells #[.int .i64 tk,.int .i64 tm,.int .i64 ta,.int .i64 tb,.string X,.bool tg,.int .i64 ts,.int .i64 te] 66)).heap.size=w.heap.size+1:=by simp
  obtain⟨w1,hw1⟩:∃w1,w.alloc (.cells #[.int .i64 tk,.int .i64 tm,.int .i64 ta,.int .i64 tb,.string X,.bool tg,.int .i64 ts,.int .i64 te] 66)=w1:=⟨_,rfl⟩
  have HW1:=kT hw1
  rw[hw1]at B1 eZ hs1
  have CD:=(h.below B1).depth hKb
  have HB1:Hid (Below w.heap.size w w1):=B1
  have HH:=kT h
  obtain⟨na,n,nc,hnv,hnn,hn,hno⟩:=h.names hKb
  simp only at hnn hno
  have HNV:Hid (nv=.slice na n nc):=hnv
  have IM:Hid (nm.length=n):=hnn
  have ru:=kT hno
  have zR:=h.px.bo
  obtain⟨ba,bc,hbv⟩:=cZ zR
  have hlb:=h.lb
  simp only[List.length_cons]at hlb hbv
  obtain⟨m,hm⟩:∃m,bl.length+1=m:=⟨_,rfl⟩
  rw[hm]at hbv hlb
  have HM:Hid ((b::bl).length=m):=by simpa[Hid]using hm
  have wG:Hid (bv=.slice ba m bc):=hbv
  obtain⟨ce,hce⟩:∃ce,decide (tn∈nm)=ce:=⟨_,rfl⟩
  have HCE:Hid (decide (tn∈nm)=ce):=hce
  have kN:Hid (∀w',Below w.heap.size w w'→Calls Tryz.prog 40 #[.slice na n nc,.string X] w' fun e w''=>e=.returned (.bool ce)∧w''=w'):=fun w' hb=>by rw[←hce,←hX];exact oH tn (hno w' hb).1 hnn (by omega)
  obtain⟨D,hD⟩:∃D,PS.depth ⟨nx,bs,cs,nm⟩=D:=⟨_,rfl⟩
  rw[hD]at CD
  obtain⟨xe,hxe⟩:∃xe,X.toList.isEmpty=xe:=⟨_,rfl⟩
  have HE2:Hid (X.toList.isEmpty=xe):=hxe
  have Ma:Hid (xe=true↔tn=[]):=by
    unfold Hid
    rw[←hxe,←hX]
    by_cases he:tn=[]
    · subst he;rw[Lib.toList_data];exact⟨fun _=>rfl,fun _=>rfl⟩
    · rw[uf he];exact⟨fun e=>Bool.noConfusion e,fun e=>absurd e he⟩
  obtain⟨R,hR⟩:∃R,dN ⟨nx,bs,cs,nm⟩ ⟨tk,tm,ta,tb,tn,tg,ts,te⟩=R:=⟨_,rfl⟩
  have HST:Hid (R=if D=50 then .error 153 else if tn≠[]∧tn∈nm then .error 151 else .ok ⟨nx,⟨kJ ⟨tk,tm,ta,tb,tn,tg,ts,te⟩ n,[],[]⟩::bs,cs,nm⟩):=by
    unfold Hid
    rw[←hR]
    show(if PS.depth ⟨nx,bs,cs,nm⟩=50 then(Except.error 153:Except Int PS)else if tn≠[]∧tn∈nm then .error 151 else if numbered ⟨tk,tm,ta,tb,tn,tg,ts,te⟩∧nm.length=20 then .error 4 else .ok ⟨nx,⟨kJ ⟨tk,tm,ta,tb,tn,tg,ts,te⟩ (if numbered ⟨tk,tm,ta,tb,tn,tg,ts,te⟩then nm++[tn]else nm).length,[],[]⟩::bs,cs,if numbered ⟨tk,tm,ta,tb,tn,tg,ts,te⟩then nm++[tn]else nm⟩)=_
    rw[HNU.out,hD,IM.out]
    simp[IM.out]
  rw[hR]
  clear hw1 B1 h hnv hnn hno zR hbv hm hD hce hX ht HNU hxe hR
  go_enter Tryz.func26,Tryz.ntmps26
  obtain⟨e0,e2⟩:=hmd
  all_goals
    go_upto_region 1 with fail
    rw[HW1.out]
    have c1:=eZ.out.cell 1 (u:=.int .i64 tm) rfl
    go_wp2_with fail
    clear c1 e0
    try clear e2
    refine CD.mono ?_
    rintro e w2⟨rfl,hb2⟩
    have HB2:Hid (Below w.heap.size w w2):=HB1.out.trans (ae hb2 (by omega))
    have hs2:=hb2.size
    have qZ:=kT (eZ.out.on hb2)
    clear hb2 CD eZ HW1
    by_cases h50:D=50
    · subst h50
      have HF:Hid (Ok (KK+1) B pb w R (.returned (.int .i64 153)) w2):=⟨ae HB2.out fF,.inl ⟨153,by rw[HST.out,if_pos rfl],rfl,(HH.out.below HB2.out).px.gh⟩⟩
      clear qZ HH kN HST ru
      go_wp2
      go_ret
      exact HF.out
    have hD0:(((D:Nat):Int)==50)=false:=by simp;omega
    replace HST:Hid (R=if tn≠[]∧tn∈nm then .error 151 else .ok ⟨nx,⟨kJ ⟨tk,tm,ta,tb,tn,tg,ts,te⟩ n,[],[]⟩::bs,cs,nm⟩):=by unfold Hid;rw[HST.out,if_neg h50]
    clear h50
    go_upto_region 4 with fail
    have HB3:Hid (Below w.heap.size w w2.drew):=HB2.out.drew
    have DD:Hid (Bk w2.drew w.heap.size #[.int .i64 tk,.int .i64 tm,.int .i64 ta,.int .i64 tb,.string X,.bool tg,.int .i64 ts,.int .i64 te] 66):=qZ.out.on (Below.refl _ w2).drew
    have x3:=(ru.out w2 HB2.out).2
    have c4:=qZ.out.cell 4 (u:=.string X) rfl
    refine lin.UH.begin (S:=fun w'=>w'.cell? ⟨pb,3,none⟩=some (.slice na n nc)∧w'.cell? ⟨w.heap.size,4,none⟩=some (.string X)) (by kernel_rfl) ⟨x3,c4⟩ (fun hHeld=>?_)
    clear x3 c4 qZ HB2 hs2
    generalize w2.drew=w3 at*
    cases xe
    all_goals
      have hXn:=HE2.out
      iterate 3
        refine lin.UH.take (v:=?_) rfl (by kernel_rfl) (fun _ _ _ h=>h) (by rfl) ?_ (by assumption) ?_
        rotate_left
        · (intro w' hSw;(try dsimp only at hSw);go_simp;try with_reducible rfl)
        try simp only[Act.put,lin.sm,hXn,Bool.not_false,Bool.not_true]
      clear hXn
      refine lin.UH.take (v:=?_) rfl (by kernel_rfl) (fun _ _ _ h=>h) (by rfl) ?_ (by assumption) ?_
      rotate_left
      · (intro w' hSw;(try dsimp only at hSw);go_simp;try with_reducible rfl)
      try simp only[Act.put,lin.sm]
      first
      | iterate 6
          refine lin.UH.take (v:=?_) rfl (by kernel_rfl) (fun _ _ _ h=>h) (by rfl) ?_ (by assumption) ?_
          rotate_left
          · (intro w' hSw;(try dsimp only at hSw);go_simp;try with_reducible rfl)
          try simp only[Act.put,lin.sm]
        refine lin.UH.one (by kernel_rfl) rfl (fun K hK=>?_)
        have CX:=kN.out w3 HB3.out
        go_simp
        refine CX.mono ?_
        rintro e w4⟨rfl,hw4⟩
        obtain rfl:=hw4.symm
        clear CX
        refine hK.out _ _ hHeld (fun jm=>?_)
        clear hK K jm
        try simp only[Act.put,lin.sm]
      |iterate 7
          refine lin.UH.skip rfl (by kernel_rfl) (fun _ _ _ h=>h) (by kernel_rfl) (by assumption) ?_
          try simp only[Act.put,lin.sm]
      iterate 2
        refine lin.UH.take (v:=?_) rfl (by kernel_rfl) (fun _ _ _ h=>h) (by rfl) ?_ (by assumption) ?_
        rotate_left
        · (intro w' hSw;(try dsimp only at hSw);go_simp;try with_reducible rfl)
        try simp only[Act.put,lin.sm]
      refine lin.UH.fin (by kernel_rfl) ?_
      clear hHeld kN
      first
      | have he:tn≠[]:=fun h=>by have:=Ma.out.2 h;cases this
        have xX:=HCE.out
        cases ce
        rotate_left
        · have HF:Hid (Ok (KK+1) B pb w R (.returned (.int .i64 151)) w3):=⟨ae HB3.out fF,.inl ⟨151,by rw[HST.out,if_pos ⟨he,of_decide_eq_true xX⟩],rfl,(HH.out.below HB3.out).px.gh⟩⟩
          clear DD HH HST ru HCE xX he
          go_wp2
          go_ret
          exact HF.out
        replace HST:Hid (R=.ok ⟨nx,⟨kJ ⟨tk,tm,ta,tb,tn,tg,ts,te⟩ n,[],[]⟩::bs,cs,nm⟩):=by unfold Hid;rw[HST.out,if_neg (fun hh=>of_decide_eq_false xX hh.2)]
        clear xX he
      |replace HST:Hid (R=.ok ⟨nx,⟨kJ ⟨tk,tm,ta,tb,tn,tg,ts,te⟩ n,[],[]⟩::bs,cs,nm⟩):=by unfold Hid;rw[HST.out,if_neg (fun hh=>hh.1 (Ma.out.1 rfl))]
      clear HCE
      have Mj:Hid (some w.heap.size=(Value.slice ba m bc).ownBlock→False):=fun e=>by have:=(HH.out.px.bo.lt w.heap.size (by rw[wG.out];exact e.symm)).2;omega
      have x3:=(ru.out w3 HB3.out).2
      have HB0:Hid (Below B w w3):=ae HB3.out fF
      have HS0:=kT (HH.out.below HB3.out)
      go_upto_region 10 with fail
      have nO:Hid (Sx (KK+1) B w3 pb ⟨nx,bs,cs,nm⟩ (b::bl) cl bv cv nv):=HS0.out.more (Nat.le_succ _)
      have ES:Hid (Below B w w3):=HB0.out
      have wE:=kT DD.out
      clear HS0 HB0 DD HH ru x3 HB3
      have yC:Hid (nm.length=n):=IM.out
      have HNV6:Hid (nv=.slice na n nc):=HNV.out
      generalize w3=w6 at*
      have x1:=nO.out.px.blk.cell 1 (u:=bv) rfl
      rw[wG.out]at x1
      have mV:Hid (∀w',Below w6.heap.size w6 w'→w'.cell? ⟨pb,1,none⟩=some (.slice ba m bc)∧w'.cell? ⟨w.heap.size,0,none⟩=some (.int .i64 tk)∧w'.cell? ⟨w.heap.size,1,none⟩=some (.int .i64 tm)∧w'.cell? ⟨w.heap.size,2,none⟩=some (.int .i64 ta)∧w'.cell? ⟨w.heap.size,3,none⟩=some (.int .i64 tb)∧w'.cell? ⟨w.heap.size,4,none⟩=some (.string X)∧w'.cell? ⟨w.heap.size,5,none⟩=some (.bool tg)∧w'.cell? ⟨w.heap.size,6,none⟩=some (.int .i64 ts)∧w'.cell? ⟨w.heap.size,7,none⟩=some (.int .i64 te)):=fun w' hb=>⟨by have:=(nO.out.px.blk.on hb).cell 1 (u:=bv) rfl;rwa[wG.out]at this,(wE.out.on hb).cell 0 rfl,(wE.out.on hb).cell 1 rfl,(wE.out.on hb).cell 2 rfl,(wE.out.on hb).cell 3 rfl,(wE.out.on hb).cell 4 rfl,(wE.out.on hb).cell 5 rfl,(wE.out.on hb).cell 6 rfl,(wE.out.on hb).cell 7 rfl⟩
      have yc:=qD ⟨tk,tm,ta,tb,tn,tg,ts,te⟩ w6.drew pb (nextV pb nx) bv cv na n nc (by have:=nO.out.px.blk.on (Below.refl _ w6).drew;rwa[HNV6.out]at this)
      unfold oO at yc
      simp only at yc
      rw[←HX.out]at yc
      obtain⟨⟨yk,ym,ya,yn⟩,hy⟩:∃y,oQ ⟨tk,tm,ta,tb,tn,tg,ts,te⟩ n=y:=⟨_,rfl⟩
      have HY:=kT hy
      rw[hy]at yc
      unfold a8b at yc
      simp only at yc
      obtain⟨Y,hYY⟩:∃Y,BA yn=Y:=⟨_,rfl⟩
      have HYY:Hid (BA yn=Y):=hYY
      rw[hYY]at yc
      have wI:Hid (m+1≤maxLen):=by unfold Hid maxLen;omega
      have wF:Hid ((m+1)*152≤140737488355328):=by unfold Hid;omega
      clear hy hYY wE
      refine UK.begin 13 (fun w'=>w'.cell? ⟨pb,1,none⟩=some (.slice ba m bc)∧w'.cell? ⟨w.heap.size,0,none⟩=some (.int .i64 tk)∧w'.cell? ⟨w.heap.size,1,none⟩=some (.int .i64 tm)∧w'.cell? ⟨w.heap.size,2,none⟩=some (.int .i64 ta)∧w'.cell? ⟨w.heap.size,3,none⟩=some (.int .i64 tb)∧w'.cell? ⟨w.heap.size,4,none⟩=some (.string X)∧w'.cell? ⟨w.heap.size,5,none⟩=some (.bool tg)∧w'.cell? ⟨w.heap.size,6,none⟩=some (.int .i64 ts)∧w'.cell? ⟨w.heap.size,7,none⟩=some (.int .i64 te)) (by kernel_rfl) (mV.out _ (Below.refl _ _).drew) (fun hHeld=>?_)
      iterate 7
        refine UK.take (v:=?_) rfl (by kernel_rfl) (fun _ _ _ h=>h) (by rfl) ?_ (by assumption) ?_
        rotate_left
        · (intro w' hSw;(try dsimp only at hSw);go_simp;try with_reducible rfl)
        try simp only[Act.put,lin.sm]
      refine UK.one (by kernel_rfl) rfl (fun K hK=>?_)
      go_simp
      refine yc.mono ?_
      rintro e w7⟨rfl,lI⟩
      have tZ:Hid (Below w6.heap.size w6 w7):=((Below.refl _ w6).drew).trans lI
      clear lI yc
      refine hK.out _ _ (mV.out _ tZ.out) (fun hHeld=>?_)
      clear hK K
      try simp only[Act.put,lin.sm]
      refine UK.take (v:=?_) rfl (by kernel_rfl) (fun _ _ _ h=>h) (by rfl) ?_ (by assumption) ?_
      rotate_left
      · (intro w' hSw;(try dsimp only at hSw);go_simp;try with_reducible rfl)
      try simp only[Act.put,lin.sm]
      have nD:Hid (Below w6.heap.size w6 (w7.alloc (.cells #[.int .i64 yk,.int .i64 ym,.int .i64 ya,.int .i64 0,.bool false,.string Y,.slice none 0 0,.slice none 0 0,.slice none 0 0,.slice none 0 0] 58))):=tZ.out.alloc tZ.out.size _
      have yB:Hid (∀(j:Nat)u,(c10 (pK ⟨yk,ym,ya,yn⟩))[j]?=some u→(w7.alloc (.cells #[.int .i64 yk,.int .i64 ym,.int .i64 ya,.int .i64 0,.bool false,.string Y,.slice none 0 0,.slice none 0 0,.slice none 0 0,.slice none 0 0] 58)).cell? ((⟨w7.heap.size,0,none⟩:Addr).add j)=some u):=fun j u hj=>by
        have b4:Bk (w7.alloc (.cells #[.int .i64 yk,.int .i64 ym,.int .i64 ya,.int .i64 0,.bool false,.string Y,.slice none 0 0,.slice none 0 0,.slice none 0 0,.slice none 0 0] 58)) w7.heap.size #[.int .i64 yk,.int .i64 ym,.int .i64 ya,.int .i64 0,.bool false,.string Y,.slice none 0 0,.slice none 0 0,.slice none 0 0,.slice none 0 0] 58:=Bk.new w7 _ _
        rw[Addr.add_lit]
        simpa using b4.cell j (u:=u) (by simpa[c10,pK,HYY.out]using hj)
      have HBS:Hid (B≤w7.heap.size):=Nat.le_trans nO.out.base tZ.out.size
      refine UK.one (by kernel_rfl) rfl (fun K hK=>?_)
      go_simp
      refine hK.out _ _ ?_ (fun hHeld=>?_)
      · exact mV.out _ nD.out
      clear hK K
      try simp only[Act.put,lin.sm]
      refine UK.one (by kernel_rfl) rfl (fun K hK=>?_)
      refine step_append_lies _ rfl _ _ 59 rfl B 58 i0 (.agg #[.int .i64 0,.int .i64 0,.int .i64 0,.int .i64 0,.bool false,.string ⟨#[]⟩,.slice none 0 0,.slice none 0 0,.slice none 0 0,.slice none 0 0]) 10 152 Tryz.underlying59 hi hz0 hz1 hz2 rfl (by decide) (.slice ba m bc) m (dm c10 (b::bl).reverse) (by simp[Act.eval,Act.put]) (by have:=rng.own_below' nO.out.px.bo nD.out;rwa[wG.out,HM.out]at this) ⟨w7.heap.size,0,none⟩ 1 1 (c10 (pK ⟨yk,ym,ya,yn⟩)) (by simp[Act.eval,Act.put]) rfl yB.out (by intro u hu;simp only[c10,pK,List.mem_cons,List.mem_nil_iff,or_false]at hu;rcases hu with rfl|rfl|rfl|rfl|rfl|rfl|rfl|rfl|rfl|rfl<;>rfl) (by decide) wI.out wF.out (by simp;exact Nat.le_succ_of_le HBS.out) _ rfl ?_
      intro g9 cr w9 zM nK hat9 hlt9
      obtain⟨hS,⟨q1,r1⟩,hbl⟩:=nO.out.vD (g5:=g9) (c:=cr) (y:=⟨yk,ym,ya,yn⟩) (t:=⟨tk,tm,ta,tb,tn,tg,ts,te⟩) (by have:=HM.out;simp only[List.length_cons]at this⊢;omega) HT.out (by simp only[yC.out];exact HY.out.symm) (by omega) nD.out (by rw[HM.out];exact zM) (by rw[wG.out];exact nK)
      rw[wG.out]at q1
      simp only[HM.out,yC.out]at hS hbl
      have HF:Hid (Ok (KK+1) B pb w R (.returned (.int .i64 0)) (w9.setCell ⟨pb,1,none⟩ (.slice (some ⟨g9,0,none⟩) (m+1) cr))):=⟨ES.out.trans hbl,.inr ⟨_,HST.out,rfl,_,_,_,_,_,hS⟩⟩
      have k:=mV.out
      have xy:∀j(hj:j<8)u,(w7.alloc (.cells #[.int .i64 yk,.int .i64 ym,.int .i64 ya,.int .i64 0,.bool false,.string Y,.slice none 0 0,.slice none 0 0,.slice none 0 0,.slice none 0 0] 58)).cell? ⟨w.heap.size,j,none⟩=some u→w9.cell? ⟨w.heap.size,j,none⟩=some u:=fun j hj u hu=>(World.cell?_of_block (a:=⟨w.heap.size,j,none⟩) (nK.block w.heap.size (by have:=World.block_lt_of_cell? _ _ hu;exact this) (fun e=>Mj.out e))).trans hu
      have HS9:w9.cell? ⟨pb,1,none⟩=some (.slice ba m bc)∧w9.cell? ⟨w.heap.size,0,none⟩=some (.int .i64 tk)∧w9.cell? ⟨w.heap.size,1,none⟩=some (.int .i64 tm)∧w9.cell? ⟨w.heap.size,2,none⟩=some (.int .i64 ta)∧w9.cell? ⟨w.heap.size,3,none⟩=some (.int .i64 tb)∧w9.cell? ⟨w.heap.size,4,none⟩=some (.string X)∧w9.cell? ⟨w.heap.size,5,none⟩=some (.bool tg)∧w9.cell? ⟨w.heap.size,6,none⟩=some (.int .i64 ts)∧w9.cell? ⟨w.heap.size,7,none⟩=some (.int .i64 te):=⟨q1,xy 0 (by decide) _ (k _ nD.out).2.1,xy 1 (by decide) _ (k _ nD.out).2.2.1,xy 2 (by decide) _ (k _ nD.out).2.2.2.1,xy 3 (by decide) _ (k _ nD.out).2.2.2.2.1,xy 4 (by decide) _ (k _ nD.out).2.2.2.2.2.1,xy 5 (by decide) _ (k _ nD.out).2.2.2.2.2.2.1,xy 6 (by decide) _ (k _ nD.out).2.2.2.2.2.2.2.1,xy 7 (by decide) _ (k _ nD.out).2.2.2.2.2.2.2.2⟩
      clear k xy zM nK hat9 hS hbl
      refine hK.out _ _ HS9 (fun hHeld=>?_)
      clear hK K
      try simp only[Act.put,lin.sm]
      refine UK.one (by kernel_rfl) rfl (fun K hK=>?_)
      go_simp
      refine hK.out _ _ ?_ (fun hHeld=>?_)
      · exact hHeld
      clear hK K
      try simp only[Act.put,lin.sm]
      refine UK.take (v:=?_) rfl (by kernel_rfl) (fun _ _ _ h=>h) (by rfl) ?_ (by assumption) ?_
      rotate_left
      · (intro w' hSw;(try dsimp only at hSw);go_simp;try with_reducible rfl)
      try simp only[Act.put,lin.sm]
      refine UK.last (by kernel_rfl) rfl (fun K hK=>?_)
      go_simp
      refine hK.out _ _ ?_
      clear hK K
      try simp only[Act.put,lin.sm]
      have hHeld:=True.intro
      refine lin.UH.fin (by kernel_rfl) ?_
      clear hHeld HS9
      go_wp2
      go_ret
      exact HF.out
theorem rX{KK B:Nat}{w:World}{pb nx bs cs nm b bl cl bv cv nv}(t:Tk)(ht:tV t)(h:Sx KK B w pb ⟨nx,bs,cs,nm⟩ (b::bl) cl bv cv nv)(hKb:KK≤100000):
  Calls Tryz.prog 26 #[.pointer (some ⟨pb,0,none⟩),oO t] w fun e w'=>Ok (KK+1) B pb w (dN ⟨nx,bs,cs,nm⟩ t) e w':=by
 cases e0:t.mode==0
 ·cases e2:t.mode==2
  ·exact JO t ht h hKb ⟨e0,e2⟩
  ·exact zo t ht h hKb (.inr ⟨e0,e2⟩)
 ·exact zo t ht h hKb (.inl e0)
end Go.Proofs.YtgbkolonhddolaaGreatDoor.prs
