import Derived.Test.YtgbkolonhddolaaGreatDoorBpPrs12
import Derived.Test.YtgbkolonhddolaaGreatDoorBpPrs1
import Derived.Test.YtgbkolonhddolaaGreatDoorBpTok6
import Derived.Test.YtgbkolonhddolaaGreatDoorBpTre1
set_option linter.unusedSectionVars false
set_option linter.unusedSimpArgs false
set_option linter.unusedVariables false
set_option maxRecDepth 100000
set_option maxHeartbeats 2000000
theorem Go.Proofs.YtgbkolonhddolaaGreatDoor.uD{p:Prop}(h:p):Go.RowKit.Hid p:=h
namespace Go.Proofs.YtgbkolonhddolaaGreatDoor.prs
open Go.RowKit nod tok
open rng(R RV info_parts)
open lin(BA)
variable[gh:Gh]
theorem Ok.ret{K B pb:Nat}{w w':World}{r:Except Int PS}{e:Ending}(h:Ok K B pb w r e w'):∃c,e=.returned (.int .i64 c)∧Hid (Ok K B pb w r (.returned (.int .i64 c)) w'):=by
 rcases h.2 with⟨c,_,rfl,_⟩|⟨s',_,rfl,_⟩
 ·exact⟨c,rfl,h⟩
 ·exact⟨0,rfl,h⟩
theorem outside_any{KK B:Nat}{w:World}{pb nx d0 bs' cs nm b bl cl bv cv nv}(t:Tk)(ht:tV t)(h:Sx KK B w pb ⟨nx,d0::bs',cs,nm⟩ (b::bl) cl bv cv nv)(hKb:KK≤100000):
  Calls Tryz.prog 21 #[.pointer (some ⟨pb,0,none⟩),oO t] w fun e w'=>Ok (KK+1) B pb w (outS ⟨nx,d0::bs',cs,nm⟩ t) e w':=by
 have fF:=h.base
 have HLF:Hid (∀(P:Nat→Prop)(w:World),Fz P w (iE t) (a8 (ig t))):=fun P w=>Et ht
 have CL:=fun w'=>zB t w'
 have C3:=fun w1(hb:Below w.heap.size w w1)=>rX t ht (h.below hb) hKb
 have C4:=fun w1(hb:Below w.heap.size w w1)=>Ib (h.below hb) hKb
 have C9:=fun w1(hb:Below w.heap.size w w1)=>tN t ht (h.below hb) hKb
 have C11:=fun w1(hb:Below w.heap.size w w1)=>nz t (h.below hb) hKb
 obtain⟨g,cap,hbv,Cy⟩:=h.xO hKb
 subst hbv
 have C5:=fun w1(hb:Below w.heap.size w w1)=>bar_any (h.below hb) hKb
 have C6:=fun w1(hb:Below w.heap.size w w1)=>eD t ht (h.below hb) hKb
 have HST:Hid (outS ⟨nx,d0::bs',cs,nm⟩ t=if t.kind=3 then dN ⟨nx,d0::bs',cs,nm⟩ t else if t.kind=4 then closeS ⟨nx,d0::bs',cs,nm⟩else if t.kind=5 then .ok ⟨nx,kW d0::bs',cs,nm⟩
  else if t.kind=6 then(match repB t d0 with|.ok c=>.ok ⟨nx,c::bs',cs,nm⟩|.error e=>.error e)else if t.kind=9 then dP ⟨nx,d0::bs',cs,nm⟩ t else if t.kind=11 then aD ⟨nx,d0::bs',cs,nm⟩ t else .ok ⟨nx,eQ (iE t) d0::bs',cs,nm⟩):=rfl
 have HH:=uD h
 obtain⟨tk,tm,ta,tb,tn,tg,ts,te⟩:=t
 unfold oO at CL C3 C9 C11 C6⊢
 simp only at CL C3 C9 C11 C6 HST HLF⊢
 obtain⟨⟨lk,lm,la,lb,lg,ln,ka,kn,kc⟩,hlv⟩:∃v,ig ⟨tk,tm,ta,tb,tn,tg,ts,te⟩=v:=⟨_,rfl⟩
 rw[hlv]at HLF
 simp only[hlv,a8]at CL
 have HF:=uD HLF.out
 have DI:Hid (∀w',_):=CL
 generalize BA tn=X at*
 have B1:Below w.heap.size w (w.alloc (.cells #[.int .i64 tk,.int .i64 tm,.int .i64 ta,.int .i64 tb,.string X,.bool tg,.int .i64 ts,.int .i64 te] 66)):=(Below.refl _ w).alloc (Nat.le_refl _) _
 have TB:Bk (w.alloc (.cells #[.int .i64 tk,.int .i64 tm,.int .i64 ta,.int .i64 tb,.string X,.bool tg,.int .i64 ts,.int .i64 te] 66)) w.heap.size #[.int .i64 tk,.int .i64 tm,.int .i64 ta,.int .i64 tb,.string X,.bool tg,.int .i64 ts,.int .i64 te] 66:=Bk.new w _ _
 obtain⟨w1,hw1⟩:∃w1,w.alloc (.cells #[.int .i64 tk,.int .i64 tm,.int .i64 ta,.int .i64 tb,.string X,.bool tg,.int .i64 ts,.int .i64 te] 66)=w1:=⟨_,rfl⟩
 have HW1:=uD hw1
 rw[hw1]at B1 TB
 have hs1:w1.heap.size=w.heap.size+1:=by rw[←hw1];simp
 have eZ:=uD TB
 have HB1:Hid (Below w.heap.size w w1):=B1
 have uj:Hid (Below B w w1):=ae B1 fF
 have D3:Hid _:=C3 w1 B1
 have D4:Hid _:=C4 w1 B1
 have D9:Hid _:=C9 w1 B1
 have D11:Hid _:=C11 w1 B1
 have D5:Hid (∀w',Below w.heap.size w w'→_):=C5
 have D6:Hid (∀w',Below w.heap.size w w'→_):=C6
 have nP:Hid (∀w',Below w.heap.size w w'→_):=Cy
 have l0:=eZ.out.cell 0 (u:=.int .i64 tk) rfl
 have l1:=eZ.out.cell 1 (u:=.int .i64 tm) rfl
 have l2:=eZ.out.cell 2 (u:=.int .i64 ta) rfl
 have l3:=eZ.out.cell 3 (u:=.int .i64 tb) rfl
 have l4:=eZ.out.cell 4 (u:=.string X) rfl
 have l5:=eZ.out.cell 5 (u:=.bool tg) rfl
 have l6:=eZ.out.cell 6 (u:=.int .i64 ts) rfl
 have l7:=eZ.out.cell 7 (u:=.int .i64 te) rfl
 clear hw1 B1 TB h HLF CL C3 C4 C5 C6 C9 C11 hlv Cy ht
 by_cases h3:tk=3
 ·have e3:(tk==3)=true:=by simp[h3]
  have HS:Hid (outS ⟨nx,d0::bs',cs,nm⟩ ⟨tk,tm,ta,tb,tn,tg,ts,te⟩=dN ⟨nx,d0::bs',cs,nm⟩ ⟨tk,tm,ta,tb,tn,tg,ts,te⟩):=by unfold Hid;rw[HST.out,if_pos h3]
  have CC:Calls Tryz.prog 26 #[.pointer (some ⟨pb,0,none⟩),.agg #[.int .i64 tk,.int .i64 tm,.int .i64 ta,.int .i64 tb,.string X,.bool tg,.int .i64 ts,.int .i64 te]] w1 _:=D3.out
  clear HST DI nP HF D3 D4 D5 D6 D9 D11 h3
  go_enter Tryz.func21,Tryz.ntmps21
  go_upto_region 1 with fail
  rw[HW1.out]
  clear HW1
  go_wp2_with fail
  refine CC.mono ?_
  rintro e w2 hok
  obtain⟨c,rfl,hr⟩:=hok.ret
  have HE:Hid (Ok (KK+1) B pb w (outS ⟨nx,d0::bs',cs,nm⟩ ⟨tk,tm,ta,tb,tn,tg,ts,te⟩) (.returned (.int .i64 c)) w2):=by unfold Hid;rw[HS.out];exact hr.out.back uj.out
  clear hok hr CC
  go_wp2
  go_ret
  exact HE.out
 have e3:(tk==3)=false:=by simpa using h3
 by_cases h4:tk=4
 ·have e4:(tk==4)=true:=by simp[h4]
  have HS:Hid (outS ⟨nx,d0::bs',cs,nm⟩ ⟨tk,tm,ta,tb,tn,tg,ts,te⟩=closeS ⟨nx,d0::bs',cs,nm⟩):=by unfold Hid;rw[HST.out,if_neg h3,if_pos h4]
  have CC:Calls Tryz.prog 27 #[.pointer (some ⟨pb,0,none⟩)] w1 _:=D4.out
  clear HST DI nP HF D3 D4 D5 D6 D9 D11 h3 h4
  go_enter Tryz.func21,Tryz.ntmps21
  go_upto_region 1 with fail
  rw[HW1.out]
  clear HW1
  go_wp2_with fail
  refine CC.mono ?_
  rintro e w2 hok
  obtain⟨c,rfl,hr⟩:=hok.ret
  have HE:Hid (Ok (KK+1) B pb w (outS ⟨nx,d0::bs',cs,nm⟩ ⟨tk,tm,ta,tb,tn,tg,ts,te⟩) (.returned (.int .i64 c)) w2):=by unfold Hid;rw[HS.out];exact hr.out.back uj.out
  clear hok hr CC
  go_wp2
  go_ret
  exact HE.out
 have e4:(tk==4)=false:=by simpa using h4
 by_cases h5:tk=5
 ·have e5:(tk==5)=true:=by simp[h5]
  have HS:Hid (outS ⟨nx,d0::bs',cs,nm⟩ ⟨tk,tm,ta,tb,tn,tg,ts,te⟩=.ok ⟨nx,kW d0::bs',cs,nm⟩):=by unfold Hid;rw[HST.out,if_neg h3,if_neg h4,if_pos h5]
  have CB:Calls Tryz.prog 17 #[.pointer (some ⟨pb,0,none⟩)] w1 _:=nP.out w1 HB1.out
  clear HST DI HF D3 D4 D6 D9 D11 nP h3 h4 h5
  go_enter Tryz.func21,Tryz.ntmps21
  go_upto_region 1 with fail
  rw[HW1.out]
  clear HW1
  go_wp2_with fail
  refine CB.mono ?_
  rintro e w2⟨rfl,hb2⟩
  clear CB
  have HB2:Hid (Below w.heap.size w w2):=HB1.out.trans (ae hb2 (by omega))
  clear hb2
  go_wp2_with fail
  refine(D5.out w2 HB2.out).mono ?_
  rintro e w3⟨rfl,hb3,b',hS⟩
  have HE:Hid (Ok (KK+1) B pb w (outS ⟨nx,d0::bs',cs,nm⟩ ⟨tk,tm,ta,tb,tn,tg,ts,te⟩) (.returned (.int .i64 0)) w3):=⟨(ae HB2.out fF).trans hb3,.inr ⟨_,HS.out,rfl,_,_,_,_,_,hS⟩⟩
  clear hb3 hS D5
  go_wp2
  go_ret
  exact HE.out
 have e5:(tk==5)=false:=by simpa using h5
 by_cases h6:tk=6
 ·have e6:(tk==6)=true:=by simp[h6]
  have HS:Hid (outS ⟨nx,d0::bs',cs,nm⟩ ⟨tk,tm,ta,tb,tn,tg,ts,te⟩=match repB ⟨tk,tm,ta,tb,tn,tg,ts,te⟩ d0 with|.ok c=>.ok ⟨nx,c::bs',cs,nm⟩|.error e=>.error e):=by unfold Hid;rw[HST.out,if_neg h3,if_neg h4,if_neg h5,if_pos h6]
  have HM:Hid (∀w',Below w1.heap.size w1 w'→w'.cell? ⟨w.heap.size,0,none⟩=some (.int .i64 tk)∧w'.cell? ⟨w.heap.size,1,none⟩=some (.int .i64 tm)∧w'.cell? ⟨w.heap.size,2,none⟩=some (.int .i64 ta)∧w'.cell? ⟨w.heap.size,3,none⟩=some (.int .i64 tb)∧w'.cell? ⟨w.heap.size,4,none⟩=some (.string X)∧w'.cell? ⟨w.heap.size,5,none⟩=some (.bool tg)∧w'.cell? ⟨w.heap.size,6,none⟩=some (.int .i64 ts)∧w'.cell? ⟨w.heap.size,7,none⟩=some (.int .i64 te)):=fun w' hb=>⟨(eZ.out.on hb).cell 0 rfl,(eZ.out.on hb).cell 1 rfl,(eZ.out.on hb).cell 2 rfl,(eZ.out.on hb).cell 3 rfl,(eZ.out.on hb).cell 4 rfl,(eZ.out.on hb).cell 5 rfl,(eZ.out.on hb).cell 6 rfl,(eZ.out.on hb).cell 7 rfl⟩
  clear HST DI HF D3 D4 D5 D9 D11 h3 h4 h5 h6
  go_enter Tryz.func21,Tryz.ntmps21
  go_upto_region 1 with fail
  rw[HW1.out]
  clear HW1
  go_upto_region 10 with fail
  refine wp_region_noPanic ?_
  refine aZ 3 (fun w'=>w'.cell? ⟨w.heap.size,0,none⟩=some (.int .i64 tk)∧w'.cell? ⟨w.heap.size,1,none⟩=some (.int .i64 tm)∧w'.cell? ⟨w.heap.size,2,none⟩=some (.int .i64 ta)∧w'.cell? ⟨w.heap.size,3,none⟩=some (.int .i64 tb)∧w'.cell? ⟨w.heap.size,4,none⟩=some (.string X)∧w'.cell? ⟨w.heap.size,5,none⟩=some (.bool tg)∧w'.cell? ⟨w.heap.size,6,none⟩=some (.int .i64 ts)∧w'.cell? ⟨w.heap.size,7,none⟩=some (.int .i64 te)) (by kernel_rfl) ⟨l0,l1,l2,l3,l4,l5,l6,l7⟩ (fun hHeld=>?_)
  refine gH 2 (v:=?_) rfl (by kernel_rfl) (fun _ _ _ h=>h) (by rfl) ?_ (by assumption) ?_
  rotate_left
  ·(intro w' hSw;(try dsimp only at hSw);go_simp;try with_reducible rfl)
  try simp only[Act.put,lin.sm]
  refine aG (j:=0) (by kernel_rfl) (by decide) rfl (fun K hK=>?_)
  go_simp
  refine hK.out _ _ ?_ (fun hHeld=>?_)
  ·exact hHeld
  clear hK K
  try simp only[Act.put,lin.sm]
  refine aG (j:=1) (by kernel_rfl) (by decide) rfl (fun K hK=>?_)
  go_simp
  refine(nP.out w1.drew HB1.out.drew).mono ?_
  rintro e w5⟨rfl,hb5⟩
  have kZ:Hid (Below w1.heap.size w1 w5):=((Below.refl _ w1).drew).trans hb5
  clear hb5
  refine hK.out _ _ (HM.out _ kZ.out) (fun hHeld=>?_)
  clear hK K
  try simp only[Act.put,lin.sm]
  refine aU (by kernel_rfl) rfl (fun K hK=>?_)
  have HB05:Hid (Below w.heap.size w w5):=HB1.out.trans (ae kZ.out (by omega))
  go_simp
  refine(D6.out w5 HB05.out).mono ?_
  rintro e w6⟨hb6,hr⟩
  have HO:∃c,e=.returned (.int .i64 c)∧Hid (Ok (KK+1) B pb w (outS ⟨nx,d0::bs',cs,nm⟩ ⟨tk,tm,ta,tb,tn,tg,ts,te⟩) (.returned (.int .i64 c)) w6):=by
   have hb:=(ae HB05.out fF).trans hb6
   rcases hr with⟨c,hc,rfl,hg⟩|⟨d',hd,rfl,hS⟩
   ·exact⟨c,rfl,hb,.inl ⟨c,by rw[HS.out,hc],rfl,hg⟩⟩
   ·exact⟨0,rfl,hb,.inr ⟨_,by rw[HS.out,hd],rfl,_,_,_,_,_,hS.more (Nat.le_succ _)⟩⟩
  obtain⟨c,rfl,HE⟩:=HO
  clear hb6 hr D6
  refine hK.out _ _ ?_
  clear hK K
  try simp only[Act.put,lin.sm]
  refine wpAny_of_held (S:=fun _=>True) _ _ _ _ ?_
  have hHeld:=True.intro
  refine lin.eT 4 (v:=?_) rfl (by kernel_rfl) (fun _ _ _ h=>h) (by rfl) ?_ (by assumption) ?_
  rotate_left
  ·(intro w' hSw;(try dsimp only at hSw);go_simp;try with_reducible rfl)
  try simp only[Act.put,lin.sm]
  refine wpAnyH_done (by kernel_rfl) ?_ _
  refine NoPanic.normal ?_
  clear hHeld
  go_wp2
  go_ret
  exact HE.out
 have e6:(tk==6)=false:=by simpa using h6
 by_cases h9:tk=9
 ·have e9:(tk==9)=true:=by simp[h9]
  have HS:Hid (outS ⟨nx,d0::bs',cs,nm⟩ ⟨tk,tm,ta,tb,tn,tg,ts,te⟩=dP ⟨nx,d0::bs',cs,nm⟩ ⟨tk,tm,ta,tb,tn,tg,ts,te⟩):=by unfold Hid;rw[HST.out,if_neg h3,if_neg h4,if_neg h5,if_neg h6,if_pos h9]
  have CC:Calls Tryz.prog 30 #[.pointer (some ⟨pb,0,none⟩),.agg #[.int .i64 tk,.int .i64 tm,.int .i64 ta,.int .i64 tb,.string X,.bool tg,.int .i64 ts,.int .i64 te]] w1 _:=D9.out
  clear HST DI nP HF D3 D4 D5 D6 D9 D11 h3 h4 h5 h6 h9
  go_enter Tryz.func21,Tryz.ntmps21
  go_upto_region 1 with fail
  rw[HW1.out]
  clear HW1
  go_wp2_with fail
  refine CC.mono ?_
  rintro e w2 hok
  obtain⟨c,rfl,hr⟩:=hok.ret
  have HE:Hid (Ok (KK+1) B pb w (outS ⟨nx,d0::bs',cs,nm⟩ ⟨tk,tm,ta,tb,tn,tg,ts,te⟩) (.returned (.int .i64 c)) w2):=by unfold Hid;rw[HS.out];exact hr.out.back uj.out
  clear hok hr CC
  go_wp2
  go_ret
  exact HE.out
 have e9:(tk==9)=false:=by simpa using h9
 by_cases h11:tk=11
 ·have e11:(tk==11)=true:=by simp[h11]
  have HS:Hid (outS ⟨nx,d0::bs',cs,nm⟩ ⟨tk,tm,ta,tb,tn,tg,ts,te⟩=aD ⟨nx,d0::bs',cs,nm⟩ ⟨tk,tm,ta,tb,tn,tg,ts,te⟩):=by unfold Hid;rw[HST.out,if_neg h3,if_neg h4,if_neg h5,if_neg h6,if_neg h9,if_pos h11]
  have CC:Calls Tryz.prog 31 #[.pointer (some ⟨pb,0,none⟩),.agg #[.int .i64 tk,.int .i64 tm,.int .i64 ta,.int .i64 tb,.string X,.bool tg,.int .i64 ts,.int .i64 te]] w1 _:=D11.out
  clear HST DI nP HF D3 D4 D5 D6 D9 D11 h3 h4 h5 h6 h9 h11
  go_enter Tryz.func21,Tryz.ntmps21
  go_upto_region 1 with fail
  rw[HW1.out]
  clear HW1
  go_wp2_with fail
  refine CC.mono ?_
  rintro e w2 hok
  obtain⟨c,rfl,hr⟩:=hok.ret
  have HE:Hid (Ok (KK+1) B pb w (outS ⟨nx,d0::bs',cs,nm⟩ ⟨tk,tm,ta,tb,tn,tg,ts,te⟩) (.returned (.int .i64 c)) w2):=by unfold Hid;rw[HS.out];exact hr.out.back uj.out
  clear hok hr CC
  go_wp2
  go_ret
  exact HE.out
 have e11:(tk==11)=false:=by simpa using h11
 have HS:Hid (outS ⟨nx,d0::bs',cs,nm⟩ ⟨tk,tm,ta,tb,tn,tg,ts,te⟩=.ok ⟨nx,eQ (iE ⟨tk,tm,ta,tb,tn,tg,ts,te⟩) d0::bs',cs,nm⟩):=by unfold Hid;rw[HST.out,if_neg h3,if_neg h4,if_neg h5,if_neg h6,if_neg h9,if_neg h11]
 have HM:Hid (∀w',Below w1.heap.size w1 w'→w'.cell? ⟨w.heap.size,0,none⟩=some (.int .i64 tk)∧w'.cell? ⟨w.heap.size,1,none⟩=some (.int .i64 tm)∧w'.cell? ⟨w.heap.size,2,none⟩=some (.int .i64 ta)∧w'.cell? ⟨w.heap.size,3,none⟩=some (.int .i64 tb)∧w'.cell? ⟨w.heap.size,4,none⟩=some (.string X)∧w'.cell? ⟨w.heap.size,5,none⟩=some (.bool tg)∧w'.cell? ⟨w.heap.size,6,none⟩=some (.int .i64 ts)∧w'.cell? ⟨w.heap.size,7,none⟩=some (.int .i64 te)):=fun w' hb=>⟨(eZ.out.on hb).cell 0 rfl,(eZ.out.on hb).cell 1 rfl,(eZ.out.on hb).cell 2 rfl,(eZ.out.on hb).cell 3 rfl,(eZ.out.on hb).cell 4 rfl,(eZ.out.on hb).cell 5 rfl,(eZ.out.on hb).cell 6 rfl,(eZ.out.on hb).cell 7 rfl⟩
 clear HST D3 D4 D5 D6 D9 D11 h3 h4 h5 h6 h9 h11
 go_enter Tryz.func21,Tryz.ntmps21
 go_upto_region 1 with fail
 rw[HW1.out]
 clear HW1
 go_upto_region 15 with fail
 refine wp_region_noPanic ?_
 refine aZ 3 (fun w'=>w'.cell? ⟨w.heap.size,0,none⟩=some (.int .i64 tk)∧w'.cell? ⟨w.heap.size,1,none⟩=some (.int .i64 tm)∧w'.cell? ⟨w.heap.size,2,none⟩=some (.int .i64 ta)∧w'.cell? ⟨w.heap.size,3,none⟩=some (.int .i64 tb)∧w'.cell? ⟨w.heap.size,4,none⟩=some (.string X)∧w'.cell? ⟨w.heap.size,5,none⟩=some (.bool tg)∧w'.cell? ⟨w.heap.size,6,none⟩=some (.int .i64 ts)∧w'.cell? ⟨w.heap.size,7,none⟩=some (.int .i64 te)) (by kernel_rfl) ⟨l0,l1,l2,l3,l4,l5,l6,l7⟩ (fun hHeld=>?_)
 refine gH 2 (v:=?_) rfl (by kernel_rfl) (fun _ _ _ h=>h) (by rfl) ?_ (by assumption) ?_
 rotate_left
 ·(intro w' hSw;(try dsimp only at hSw);go_simp;try with_reducible rfl)
 try simp only[Act.put,lin.sm]
 refine aG (j:=0) (by kernel_rfl) (by decide) rfl (fun K hK=>?_)
 go_simp
 refine hK.out _ _ ?_ (fun hHeld=>?_)
 ·exact hHeld
 clear hK K
 try simp only[Act.put,lin.sm]
 refine aG (j:=1) (by kernel_rfl) (by decide) rfl (fun K hK=>?_)
 go_simp
 refine(nP.out w1.drew HB1.out.drew).mono ?_
 rintro e w5⟨rfl,hb5⟩
 have kZ:Hid (Below w1.heap.size w1 w5):=((Below.refl _ w1).drew).trans hb5
 clear hb5
 refine hK.out _ _ (HM.out _ kZ.out) (fun hHeld=>?_)
 clear hK K
 try simp only[Act.put,lin.sm]
 refine aU (by kernel_rfl) rfl (fun K hK=>?_)
 go_simp
 refine(DI.out w5).mono ?_
 rintro e w6⟨rfl,hb6⟩
 have DJ:Hid (Below w1.heap.size w1 w6):=kZ.out.trans (ae hb6 kZ.out.size)
 clear hb6
 refine hK.out _ _ ?_
 clear hK K
 try simp only[Act.put,lin.sm]
 have HB06:Hid (Below w.heap.size w w6):=HB1.out.trans (ae DJ.out (by omega))
 have jX:=EH lk lm la lb lg ln ka kn kc (HH.out.below HB06.out) (HF.out _ _) hKb
 refine wpAny_of_held (S:=fun _=>True) _ _ _ _ ?_
 have hHeld:=True.intro
 refine wpAnyH_ready (rs:=[4]) (by kernel_rfl) (by simp) ?_
 refine AllReadyH.cons rfl (fun K hK=>?_) AllReadyH.nil
 go_simp
 refine jX.mono ?_
 rintro e w7⟨rfl,lI,s6,Ey⟩
 have HE:Hid (Ok (KK+1) B pb w (outS ⟨nx,d0::bs',cs,nm⟩ ⟨tk,tm,ta,tb,tn,tg,ts,te⟩) (.returned (.int .i64 0)) w7):=⟨(ae HB06.out fF).trans lI,.inr ⟨_,HS.out,rfl,_,_,_,_,_,Ey⟩⟩
 clear jX lI Ey
 refine hK.out _ _ True.intro (fun hHeld=>?_)
 clear hK K
 try simp only[Act.put,lin.sm]
 refine wpAnyH_done (by kernel_rfl) ?_ _
 refine NoPanic.normal ?_
 clear hHeld
 go_wp2
 go_ret
 exact HE.out
end Go.Proofs.YtgbkolonhddolaaGreatDoor.prs
namespace Go.Proofs.YtgbkolonhddolaaGreatDoor.prs
open nod tok
/--There is a body; outside of classes none is open; behind a member there is one. -/
def Good(s:PS):Prop:=s.bs≠[]∧Inv s∧(2≤s.next→∃c r l,s.cs=c::r∧c.mem.getLast?=some l)
theorem good0:Good s0:=⟨by simp[s0],⟨fun _=>rfl,fun _=>rfl⟩,fun h=>by simp[s0]at h⟩
theorem upd_ne{f:Bd→Bd}{l:List Bd}(h:l≠[]):upd f l≠[]:=by
 cases l with
 |nil=>exact absurd rfl h
 |cons b r=>simp[upd]
theorem Fx{s s1:PS}{t:Tk}(h:stepS s t=.ok s1)(hg:Good s):Good s1:=by
 refine⟨?_,lu h hg.2.1,?_⟩
 ·obtain⟨nx,bs,cs,nm⟩:=s
  have hb:bs≠[]:=hg.1
  have me:∀{s1:PS},memS ⟨nx,bs,cs,nm⟩ t=.ok s1→s1.bs≠[]:=by
   intro s1 h
   unfold memS aD at h
   repeat'(split at h)
   all_goals first|(cases h;exact hb)|cases h
  unfold stepS at h
  split at h
  ·unfold outS dN closeS dP aD at h
   repeat'(split at h)
   all_goals first|(cases h;first|exact hb|exact upd_ne hb|simp)|cases h
  ·exact me h
  ·unfold dZ endS at h
   repeat'(split at h)
   all_goals first|exact me h|(cases h;first|exact hb|exact upd_ne hb)|cases h
  ·unfold gD at h
   repeat'(split at h)
   all_goals first|(cases h;exact hb)|cases h
 ·obtain⟨nx,bs,cs,nm⟩:=s
  have me:∀{s1:PS},memS ⟨nx,bs,cs,nm⟩ t=.ok s1→2≤s1.next→∃c r l,s1.cs=c::r∧c.mem.getLast?=some l:=by
   intro s1 h h2
   unfold memS aD at h
   repeat'(split at h)
   all_goals first|(cases h;first|exact⟨_,_,_,rfl,List.getLast?_concat⟩|(simp at h2))|cases h
  intro h2
  unfold stepS at h
  split at h
  ·rename_i h0
   have h0:nx=0:=h0
   subst h0
   unfold outS dN closeS dP aD at h
   repeat'(split at h)
   all_goals first|(cases h;simp at h2)|cases h
  ·exact me h h2
  ·unfold dZ endS at h
   repeat'(split at h)
   all_goals first
    |exact me h h2
    |(cases h;first|exact⟨_,_,_,rfl,List.getLast?_concat⟩|(simp at h2;done))
    |cases h
    |skip
   all_goals
    rename_i c r _ hk
    cases hl:c.mem.getLast? with
    |none=>rw[hl]at hk;simp at hk
    |some l=>exact⟨_,_,_,rfl,hl⟩
  ·unfold gD at h
   repeat'(split at h)
   all_goals first|(cases h;exact⟨_,_,_,rfl,List.getLast?_concat⟩)|cases h
/--An error's number is none of success. -/
theorem Ji{s:PS}{t:Tk}{c:Int}(h:stepS s t=.error c):c≠0∧0≤c∧c≤1000:=by
 obtain⟨nx,bs,cs,nm⟩:=s
 have me:∀{c:Int},memS ⟨nx,bs,cs,nm⟩ t=.error c→c≠0∧0≤c∧c≤1000:=by
  intro c h
  unfold memS aD at h
  repeat'(split at h)
  all_goals first|(cases h;decide)|cases h
 unfold stepS at h
 split at h
 ·unfold outS dN closeS dP aD repB at h
  repeat'(split at h)
  all_goals first|(cases h;decide)|cases h|skip
  all_goals
   rename_i hr
   repeat'(split at hr)
   all_goals first|(cases hr;decide)|cases hr
 ·exact me h
 ·unfold dZ endS at h
  repeat'(split at h)
  all_goals first|exact me h|(cases h;decide)|cases h
 ·unfold gD at h
  repeat'(split at h)
  all_goals first|(cases h;decide)|cases h
end Go.Proofs.YtgbkolonhddolaaGreatDoor.prs
namespace Go.Proofs.YtgbkolonhddolaaGreatDoor.prs
open Go.RowKit nod tok
open lin(BA)
theorem step_fn[gh:Gh]{KK B:Nat}{w:World}{pb s bl cl bv cv nv}(t:Tk)(ht:tV t)(h:Sx KK B w pb s bl cl bv cv nv)(hg:Good s)(hKb:KK≤100000):
  ∃F:FuncId,nextV pb s.next=.func (.func F) #[.pointer (some ⟨pb,0,none⟩)] #[]∧(∀args w,(callFunc F args).run Tryz.prog w=.ok (.enter F args) w)∧Calls Tryz.prog F #[.pointer (some ⟨pb,0,none⟩),oO t] w fun e w'=>Ok (KK+1) B pb w (stepS s t) e w':=by
 obtain⟨nx,bs,cs,nm⟩:=s
 obtain⟨h1,h2,h3⟩:=hg
 cases bs with
 |nil=>exact absurd rfl h1
 |cons d0 bs'=>
 cases bl with
 |nil=>have:=h.br.len;simp at this
 |cons b bl=>
 have hc:nx≠0→∃d cs' q cl',cs=d::cs'∧cl=q::cl':=fun hn=>by
  cases cs with
  |nil=>exact absurd (h2.2 rfl) hn
  |cons d cs'=>
   cases cl with
   |nil=>have:=h.cx.len;simp at this
   |cons q cl'=>exact⟨_,_,_,_,rfl,rfl⟩
 have hl:2≤nx→∀d cs',cs=d::cs'→∃l,d.mem.getLast?=some l:=fun hn d cs' e=>by
  obtain⟨c,r,l,e',hl⟩:=h3 hn
  have e':cs=c::r:=e'
  rw[e]at e'
  cases e'
  exact⟨l,hl⟩
 rcases nx with _|_|_|nx
 ·exact⟨_,rfl,fun args w=>by go_simp,outside_any t ht h hKb⟩
 ·obtain⟨d,cs',q,cl',rfl,rfl⟩:=hc (by omega)
  exact⟨_,rfl,fun args w=>by go_simp,sw t ht h hKb⟩
 ·obtain⟨d,cs',q,cl',rfl,rfl⟩:=hc (by omega)
  obtain⟨l,hl⟩:=hl (by omega) d cs' rfl
  exact⟨_,rfl,fun args w=>by go_simp,zU t ht h hKb hl⟩
 ·obtain⟨d,cs',q,cl',rfl,rfl⟩:=hc (by omega)
  obtain⟨l,hl⟩:=hl (by omega) d cs' rfl
  exact⟨_,rfl,fun args w=>by go_simp,wU t ht h hKb hl⟩
/--A fault's block, and a token's besides. -/
@[reducible]def G9(r:Nat):Gh:=⟨fun k=>if k=r then some (.cells #[.int .i64 0,.int .i64 0] 29)else none,fun k o e=>by
 by_cases h:k=r
 ·rw[if_pos h]at e;cases e;exact⟨_,_,_,rfl,.inr rfl⟩
 ·rw[if_neg h]at e;cases e⟩
@[reducible] def gh2(r q:Nat)(cs:Array Value):Gh:=⟨fun k=>if k=q then some (.cells cs 66)else if k=r then some (.cells #[.int .i64 0,.int .i64 0] 29)else none,fun k o e=>by
 by_cases h:k=q
 ·rw[if_pos h]at e;cases e;exact⟨_,_,_,rfl,.inl rfl⟩
 ·rw[if_neg h]at e
  by_cases h:k=r
  ·rw[if_pos h]at e;cases e;exact⟨_,_,_,rfl,.inr rfl⟩
  ·rw[if_neg h]at e;cases e⟩
theorem KT{w:World}{r:Nat}(h:Bk w r #[.int .i64 0,.int .i64 0] 29):je (G9 r) w:=fun k o e=>by
 have e:(if k=r then some (Obj.cells #[.int .i64 0,.int .i64 0] 29)else none)=some o:=e
 by_cases hk:k=r
 ·rw[if_pos hk]at e;cases e;subst hk;exact h
 ·rw[if_neg hk]at e;cases e
theorem CQ{w:World}{r:Nat}(h:je (G9 r) w):Bk w r #[.int .i64 0,.int .i64 0] 29:=h r _ (if_pos rfl)
theorem gh2_at{w:World}{r q:Nat}{cs:Array Value}(h:Bk w r #[.int .i64 0,.int .i64 0] 29)(hq:Bk w q cs 66):je (gh2 r q cs) w:=fun k o e=>by
 have e:(if k=q then some (Obj.cells cs 66)else if k=r then some (Obj.cells #[.int .i64 0,.int .i64 0] 29)else none)=some o:=e
 by_cases hk:k=q
 ·rw[if_pos hk]at e;cases e;subst hk;exact hq
 ·rw[if_neg hk]at e
  by_cases hk:k=r
  ·rw[if_pos hk]at e;cases e;subst hk;exact h
  ·rw[if_neg hk]at e;cases e
theorem KS{w:World}{r q:Nat}{cs:Array Value}(h:je (gh2 r q cs) w)(hn:r≠q):Bk w r #[.int .i64 0,.int .i64 0] 29∧Bk w q cs 66:=
 ⟨h r _ (by show(if r=q then _ else _)=_;rw[if_neg hn,if_pos rfl]),h q _ (if_pos rfl)⟩
theorem tX.keep{w w':World}{B g off:Nat}{t:Tk}(h:tX w g off t)(hb:Below B w w')(hg:g<B):tX w' g off t:=by
 have k:∀{o:Nat}{v:Value},w.cell? ⟨g,o,none⟩=some v→w'.cell? ⟨g,o,none⟩=some v:=fun e=>(hb.cell (p:=⟨g,_,none⟩) hg).trans e
 exact⟨k h.c0,k h.c1,k h.c2,k h.c3,k h.c4,k h.c5,k h.c6,k h.c7⟩
/--What reading tokens comes to: the fault, and the state behind them. -/
def Rd(K B pb:Nat)(w:World)(r:Except (Int×Nat) PS)(e:Ending)(w':World):Prop:=
 Below B w w'∧((∃c i,r=.error (c,i)∧c≠0∧e=.returned (.agg #[.int .i64 c,.int .i64 ((i:Nat):Int)]))∨
  ∃s,r=.ok s∧Good s∧e=.returned (.agg #[.int .i64 0,.int .i64 0])∧∃bl cl bv cv nv,Sx (gh:=CU) K B w' pb s bl cl bv cv nv)
theorem Ok.split[gh:Gh]{K B pb:Nat}{w w':World}{s:PS}{t:Tk}{e:Ending}(h:Ok K B pb w (stepS s t) e w'):∃c,e=.returned (.int .i64 c)∧Below B w w'∧je gh w'∧
  ((stepS s t=.error c∧c≠0)∨(c=0∧∃s',stepS s t=.ok s'∧∃bl cl bv cv nv,Sx K B w' pb s' bl cl bv cv nv)):=by
 rcases h with⟨hb,⟨c,hc,rfl,hg⟩|⟨s',hs,rfl,bl,cl,bv,cv,nv,hx⟩⟩
 ·exact⟨c,rfl,hb,hg,.inl ⟨hc,(Ji hc).1⟩⟩
 ·exact⟨0,rfl,hb,hx.px.gh,.inr ⟨rfl,s',hs,_,_,_,_,_,hx⟩⟩
theorem KU(w:World):je CU w:=fun k o e=>by cases e
end Go.Proofs.YtgbkolonhddolaaGreatDoor.prs
namespace Go.Proofs.YtgbkolonhddolaaGreatDoor.prs
open Go.RowKit nod tok
open lin(BA)
attribute [local instance] CU
theorem infFt:(Tryz.prog.info? 29).map (·.size)=some 2:=by kernel_rfl
theorem retF{fn:Func}{p:Tmp}(h:fn.results=#[.cell p 29])(tmps:Array Value)(w:World)(g:Nat)(c i:Int)(hp:tmps.getD p undef=.pointer (some ⟨g,0,none⟩))(hq:Bk w g #[.int .i64 c,.int .i64 i] 29):
  (results fn tmps).run Tryz.prog w=.ok (.agg #[.int .i64 c,.int .i64 i]) w:=
 results_cell_row h tmps w g 29 #[.int .i64 c,.int .i64 i] (0,0) _ hp hq Tryz.underlying29 rfl infFt
/--A fault's cell, stored. -/
theorem Sx.other{K B:Nat}{w:World}{pb s bl cl bv cv nv}{g:Nat}{cs:Array Value}(h:Sx (gh:=CU) K B w pb s bl cl bv cv nv)(hk:Bk w g cs 29)(i:Nat)(u:Value):Sx (gh:=CU) K B (w.setCell ⟨g,i,none⟩ u) pb s bl cl bv cv nv:=by
 rcases h with⟨⟨a1,a2,a3,a4,a5,_⟩,b1,b2,b3,b4,b5,b6,b7⟩
 have hg:=ay w g i u
 have hu:NU none w (w.setCell ⟨g,i,none⟩ u):=NU.iU hg fun k e hn=>by cases e;exact qV hk (by decide) hn
 have hpg:some pb≠some g:=fun e=>by
  cases e
  unfold Bk at a1 hk
  rw[a1]at hk
  cases hk
 exact⟨⟨(hg.block pb a1.lt hpg).trans a1,a2,a3.kept hg (az a3 hk (by decide)),a4.kept hg (az a4 hk (by decide)),a5.kept hg (az a5 hk (by decide)),KU _⟩,b1,b2.imp fun t v f=>f.nu hu,b3.nu hu,b4,b5,b6,b7⟩
theorem yV{s s':PS}{t:Tk}{l:List Tk}(h:stepS s t=.ok s'):runS s (t::l)=runS s' l:=by rw[runS,h]
theorem wS{s:PS}{t:Tk}{l:List Tk}{c:Int}(h:stepS s t=.error c):runS s (t::l)=.error (c,t.s):=by rw[runS,h]
theorem JE{B:Nat}{w:World}{pb:Nat}{bl cl bv cv nv}{L:List Tk}{a:Option Addr}{n cap:Nat}(h:Sx (gh:=CU) 0 B w pb s0 bl cl bv cv nv)(hT:∀i t,L[i]?=some t→∃g,a=some ⟨g,0,none⟩∧g<B∧tX w g (i*8) t)(hI:∀t∈L,tV t)(hn:L.length=n)(hn2:n≤10000)(fF:B≤w.heap.size):
  Calls Tryz.prog 15 #[.pointer (some ⟨pb,0,none⟩),.slice a n cap] w fun e w'=>Rd n B pb w (runS s0 L) e w':=by
 have HT:=uD hT
 have HI:Hid (∀t∈L,tV t):=hI
 have HN:Hid (L.length=n):=hn
 have B1:Below w.heap.size w (w.alloc (.cells #[.int .i64 0,.int .i64 0] 29)):=(Below.refl _ w).alloc (Nat.le_refl _) _
 have R1:Bk (w.alloc (.cells #[.int .i64 0,.int .i64 0] 29)) w.heap.size #[.int .i64 0,.int .i64 0] 29:=Bk.new w _ _
 obtain⟨w1,hw1⟩:∃w1,w.alloc (.cells #[.int .i64 0,.int .i64 0] 29)=w1:=⟨_,rfl⟩
 have HW1:=uD hw1
 rw[hw1]at B1 R1
 have bV:Hid (Sx (gh:=G9 w.heap.size) 0 B w1 pb s0 bl cl bv cv nv):=(Sx.below (gh:=CU) h B1).ghost (KT R1)
 have HB1:Hid (Below B w w1):=ae B1 fF
 obtain⟨R,hR⟩:∃R,runS s0 L=R:=⟨_,rfl⟩
 have HR:Hid (runS s0 L=R):=hR
 have hpb:pb<w.heap.size:=(Px.blk (gh:=CU) (Sx.px (gh:=CU) h)).lt
 rw[hR]
 clear hw1 B1 R1 h hT hI hn hR
 go_enter Tryz.func15,Tryz.ntmps15
 go_upto_region 1 with fail
 rw[HW1.out]
 go_upto_region 2 with fail
 go_loopw[10](fun i wr=>∃(k:Nat)(s:PS)(bl:List Bv)(cl:List Kv)(bv cv nv:Value),k≤n∧i=.int .i64 k∧Hid (Sx (gh:=G9 w.heap.size) k B wr pb s bl cl bv cv nv)∧Hid (Good s)∧Hid (runS s (L.drop k)=R)∧Hid (Below B w wr))(fun i _=>n-(intOf i).toNat)
 case atStart=>exact⟨0,s0,_,_,_,_,_,Nat.zero_le _,rfl,bV,good0,by simpa[Hid]using HR.out,HB1⟩
 case round=>
  obtain⟨k,s,bl,cl,bv,cv,nv,hk,rfl,HS,HG,HK,HB⟩:=hrel
  clear bV HB1 HR HW1
  have hrs:w.heap.size<wr.heap.size:=(CQ (Px.gh (gh:=G9 w.heap.size) (Sx.px (gh:=G9 w.heap.size) HS.out))).lt
  by_cases hlt:k<n
  ·have hkL:k<L.length:=by have:=HN.out;omega
   obtain⟨t,htk⟩:∃t,L[k]?=some t:=⟨_,List.getElem?_eq_getElem hkL⟩
   have hdr:L.drop k=t::L.drop (k+1):=by rw[List.drop_eq_getElem_cons hkL];rw[List.getElem?_eq_getElem hkL]at htk;cases htk;rfl
   obtain⟨g,rfl,hgB,hat⟩:=HT.out k t htk
   replace hat:=tX.keep hat HB.out hgB
   have hti:tV t:=HI.out t (List.mem_of_getElem? htk)
   have oU:Hid (∀s',stepS s t=.ok s'→runS s' (L.drop (k+1))=R):=fun s' hs=>by rw[←HK.out,hdr,yV hs]
   have ui:Hid (∀c,stepS s t=.error c→R=.error (c,t.s)):=fun c hs=>by rw[←HK.out,hdr,wS hs]
   have BQ:Below wr.heap.size wr (wr.alloc (.cells #[.int .i64 t.kind,.int .i64 t.mode,.int .i64 t.a,.int .i64 t.b,.string (BA t.name),.bool t.neg,.int .i64 t.s,.int .i64 t.e] 66)):=(Below.refl _ wr).alloc (Nat.le_refl _) _
   have QB:Bk (wr.alloc (.cells #[.int .i64 t.kind,.int .i64 t.mode,.int .i64 t.a,.int .i64 t.b,.string (BA t.name),.bool t.neg,.int .i64 t.s,.int .i64 t.e] 66)) wr.heap.size #[.int .i64 t.kind,.int .i64 t.mode,.int .i64 t.a,.int .i64 t.b,.string (BA t.name),.bool t.neg,.int .i64 t.s,.int .i64 t.e] 66:=Bk.new wr _ _
   obtain⟨W,hW⟩:∃W,wr.alloc (.cells #[.int .i64 t.kind,.int .i64 t.mode,.int .i64 t.a,.int .i64 t.b,.string (BA t.name),.bool t.neg,.int .i64 t.s,.int .i64 t.e] 66)=W:=⟨_,rfl⟩
   have HW:=uD hW
   rw[hW]at BQ QB
   have hS1:=Sx.below (gh:=G9 w.heap.size) HS.out BQ.drew
   have hS2:Sx (gh:=gh2 w.heap.size wr.heap.size #[.int .i64 t.kind,.int .i64 t.mode,.int .i64 t.a,.int .i64 t.b,.string (BA t.name),.bool t.neg,.int .i64 t.s,.int .i64 t.e]) k B W.drew pb s bl cl bv cv nv:=hS1.ghost (gh2_at (CQ (Px.gh (gh:=G9 w.heap.size) (Sx.px (gh:=G9 w.heap.size) hS1))) (QB.on (Below.refl _ W).drew))
   obtain⟨F,hF,hE,CF⟩:=step_fn (gh:=gh2 w.heap.size wr.heap.size #[.int .i64 t.kind,.int .i64 t.mode,.int .i64 t.a,.int .i64 t.b,.string (BA t.name),.bool t.neg,.int .i64 t.s,.int .i64 t.e]) t hti hS2 HG.out (by omega)
   have x0:=(Px.blk (gh:=gh2 w.heap.size wr.heap.size #[.int .i64 t.kind,.int .i64 t.mode,.int .i64 t.a,.int .i64 t.b,.string (BA t.name),.bool t.neg,.int .i64 t.s,.int .i64 t.e]) (Sx.px (gh:=gh2 w.heap.size wr.heap.size #[.int .i64 t.kind,.int .i64 t.mode,.int .i64 t.a,.int .i64 t.b,.string (BA t.name),.bool t.neg,.int .i64 t.s,.int .i64 t.e]) hS2)).cell 0 (u:=nextV pb s.next) rfl
   rw[hF]at x0
   have jd:Hid (Below B w W.drew):=HB.out.trans (ae BQ (by have:=HB.out.size;omega)).drew
   have hsW:W.drew.heap.size=wr.heap.size+1:=by rw[←hW];simp[World.drew]
   obtain⟨c0,c1,c2,c3,c4,c5,c6,c7⟩:=hat
   have HGS:Hid (∀s',stepS s t=.ok s'→Good s'):=fun s' hs=>Fx hs HG.out
   obtain⟨tk,tm,ta,tb,tn,tg,ts,te⟩:=t
   unfold oO at CF
   simp only at CF c0 c1 c2 c3 c4 c5 c6 c7 oU ui HW QB HGS
   generalize BA tn=X at*
   have HCF:=uD CF
   have HQL:Hid (Bk W.drew wr.heap.size #[.int .i64 tk,.int .i64 tm,.int .i64 ta,.int .i64 tb,.string X,.bool tg,.int .i64 ts,.int .i64 te] 66):=QB.on (Below.refl _ W).drew
   have l0:=HQL.out.cell 0 (u:=.int .i64 tk) rfl
   have l1:=HQL.out.cell 1 (u:=.int .i64 tm) rfl
   have l2:=HQL.out.cell 2 (u:=.int .i64 ta) rfl
   have l3:=HQL.out.cell 3 (u:=.int .i64 tb) rfl
   have l4:=HQL.out.cell 4 (u:=.string X) rfl
   have l5:=HQL.out.cell 5 (u:=.bool tg) rfl
   have l6:=HQL.out.cell 6 (u:=.int .i64 ts) rfl
   have l7:=HQL.out.cell 7 (u:=.int .i64 te) rfl
   have HE:=uD hE
   clear hW hS1 hS2 hE CF hti hdr htk HG HS HT HI HK HB QB BQ hF
   go_upto_region 4 with fail
   rw[HW.out]
   clear HW c0 c1 c2 c3 c4 c5 c6 c7
   refine UK.begin 5 (fun w'=>w'.cell? ⟨pb,0,none⟩=some (.func (.func F) #[.pointer (some ⟨pb,0,none⟩)] #[])∧w'.cell? ⟨wr.heap.size,0,none⟩=some (.int .i64 tk)∧w'.cell? ⟨wr.heap.size,1,none⟩=some (.int .i64 tm)∧w'.cell? ⟨wr.heap.size,2,none⟩=some (.int .i64 ta)∧w'.cell? ⟨wr.heap.size,3,none⟩=some (.int .i64 tb)∧w'.cell? ⟨wr.heap.size,4,none⟩=some (.string X)∧w'.cell? ⟨wr.heap.size,5,none⟩=some (.bool tg)∧w'.cell? ⟨wr.heap.size,6,none⟩=some (.int .i64 ts)∧w'.cell? ⟨wr.heap.size,7,none⟩=some (.int .i64 te)) (by kernel_rfl) ⟨x0,l0,l1,l2,l3,l4,l5,l6,l7⟩ (fun hHeld=>?_)
   iterate 3
    refine UK.pure (v:=?_) rfl (by kernel_rfl) (fun _ _ _ h=>h) (by rfl) ?_ (by assumption) ?_
    rotate_left
    ·(intro w' hSw;(try dsimp only at hSw);go_simp;try with_reducible rfl)
    try simp only[Act.put,lin.sm]
   iterate 2
    refine UK.take (v:=?_) rfl (by kernel_rfl) (fun _ _ _ h=>h) (by rfl) ?_ (by assumption) ?_
    rotate_left
    ·(intro w' hSw;(try dsimp only at hSw);go_simp;try with_reducible rfl)
    try simp only[Act.put,lin.sm]
   refine UK.last (by kernel_rfl) rfl (fun K hK=>?_)
   have CC:=HCF.out
   go_simp
   rw[HE.out,Oper.upon_enter]
   refine CC.mono ?_
   rintro e w7 hok
   clear CC
   obtain⟨c,rfl,lI,hgh,hr⟩:=Ok.split (gh:=gh2 w.heap.size wr.heap.size #[.int .i64 tk,.int .i64 tm,.int .i64 ta,.int .i64 tb,.string X,.bool tg,.int .i64 ts,.int .i64 te]) hok
   clear hok
   have tZ:Hid (Below B w w7):=jd.out.trans lI
   have HHR:Hid _:=hr
   have HHG:=uD hgh
   clear lI hr hgh HCF
   refine hK.out _ _ ?_
   clear hK K
   try simp only[Act.put,lin.sm]
   have hHeld:=True.intro
   refine lin.UH.take (v:=?_) rfl (by kernel_rfl) (fun _ _ _ h=>h) (by rfl) ?_ (by assumption) ?_
   rotate_left
   ·(intro w' hSw;(try dsimp only at hSw);go_simp;try with_reducible rfl)
   try simp only[Act.put,lin.sm]
   refine lin.UH.fin (by kernel_rfl) ?_
   clear hHeld
   have hr:=HHR.out
   have hgh:=HHG.out
   clear HHR HHG
   rcases hr with⟨he,hc0⟩|⟨rfl,s',hs',bl',cl',bv',cv',nv',hx⟩
   ·have HRe:Hid (R=.error (c,ts)):=ui.out c he
    have bz:(c==0)=false:=by simpa using hc0
    have HC0:Hid (c≠0):=hc0
    obtain⟨hr1,hq1⟩:=KS hgh (by omega)
    have q6:=hq1.cell 6 (u:=.int .i64 ts) rfl
    have r0:=hr1.cell 0 (u:=.int .i64 0) rfl
    have r1:=hr1.cell 1 (u:=.int .i64 0) rfl
    have f0:=hr1.frozen 0
    have f1:=hr1.frozen 1
    have hrl:=hr1.lt
    have HZ:Hid (Bk ((w7.setCell ⟨w.heap.size,0,none⟩ (.int .i64 c)).setCell ⟨w.heap.size,1,none⟩ (.int .i64 ts)) w.heap.size #[.int .i64 c,.int .i64 ts] 29):=by
     have:=(hr1.set 0 (.int .i64 c)).set 1 (.int .i64 ts)
     unfold Hid
     simpa using this
    have HZB:Hid (Below B w ((w7.setCell ⟨w.heap.size,0,none⟩ (.int .i64 c)).setCell ⟨w.heap.size,1,none⟩ (.int .i64 ts))):=(tZ.out.setCell (by exact fF) _).setCell (by exact fF) _
    clear hr1 hq1 hgh he hc0 oU ui HGS
    go_wp2
    exact bodyPost_ret (retF Tryz.results15 _ _ w.heap.size c ts rfl HZ.out) rfl ⟨HZB.out,.inl ⟨c,ts,HRe.out,HC0.out,rfl⟩⟩
   ·have HX:Hid (Sx (gh:=G9 w.heap.size) (k+1) B w7 pb s' bl' cl' bv' cv' nv'):=Sx.ghost (gh:=gh2 w.heap.size wr.heap.size #[.int .i64 tk,.int .i64 tm,.int .i64 ta,.int .i64 tb,.string X,.bool tg,.int .i64 ts,.int .i64 te]) hx (KT (KS hgh (by omega)).1)
    have HGs:Hid (Good s'):=HGS.out s' hs'
    have HKs:Hid (runS s' (L.drop (k+1))=R):=oU.out s' hs'
    clear hx hgh hs' HGS oU ui
    go_wp2
    go_roundw
    case rel=>exact⟨k+1,s',bl',cl',bv',cv',nv',by omega,by go_num,HX,HGs,HKs,tZ⟩
    case measure=>simp[intOf];omega
  ·obtain rfl:k=n:=by omega
   have HRs:Hid (R=.ok s):=by
    have:=HK.out
    rw[List.drop_of_length_le (by rw[HN.out];exact Nat.le_refl _)]at this
    exact this.symm
   have hr1:=CQ (Px.gh (gh:=G9 w.heap.size) (Sx.px (gh:=G9 w.heap.size) HS.out))
   have r0:=hr1.cell 0 (u:=.int .i64 0) rfl
   have r1:=hr1.cell 1 (u:=.int .i64 0) rfl
   have f0:=hr1.frozen 0
   have f1:=hr1.frozen 1
   have HZ:Hid (Bk ((wr.setCell ⟨w.heap.size,0,none⟩ (.int .i64 0)).setCell ⟨w.heap.size,1,none⟩ (.int .i64 0)) w.heap.size #[.int .i64 0,.int .i64 0] 29):=by
    have:=(hr1.set 0 (.int .i64 0)).set 1 (.int .i64 0)
    unfold Hid
    simpa using this
   have HZB:Hid (Below B w ((wr.setCell ⟨w.heap.size,0,none⟩ (.int .i64 0)).setCell ⟨w.heap.size,1,none⟩ (.int .i64 0))):=(HB.out.setCell (by exact fF) _).setCell (by exact fF) _
   have HZS:Hid (∃bl cl bv cv nv,Sx (gh:=CU) k B ((wr.setCell ⟨w.heap.size,0,none⟩ (.int .i64 0)).setCell ⟨w.heap.size,1,none⟩ (.int .i64 0)) pb s bl cl bv cv nv):=⟨_,_,_,_,_,Sx.other (Sx.other (Sx.ghost (gh:=G9 w.heap.size) HS.out (KU _)) hr1 0 _) (hr1.set 0 _) 1 _⟩
   clear hr1 HT HI HK HN
   go_wp2
   exact bodyPost_ret (retF Tryz.results15 _ _ w.heap.size 0 0 rfl HZ.out) rfl ⟨HZB.out,.inr ⟨s,HRs.out,HG.out,rfl,HZS.out⟩⟩
end Go.Proofs.YtgbkolonhddolaaGreatDoor.prs
namespace Go.Proofs.YtgbkolonhddolaaGreatDoor.prs
open nod tok
open tre(grpN grpL bO eH gN)
def gB:List Bd→Int
 |[]=>0
 |b::r=>grpN b.iJ+grpL b.dH+grpL b.pts+gB r
theorem jo{k m a b:Int}{g:Bool}{n:List UInt8}{ks:List Nd}(h:k≠9):grpN (nd k m a b g n ks)=grpL ks:=by
 unfold nd;rw[grpN,if_neg (fun x=>h x.1)];omega
theorem zT(t:Tk):grpN (iE t)=0:=by
 unfold iE
 repeat' split
 all_goals(rw[jo (by decide)];rfl)
theorem zS(b:Bd):grpN b.node=grpL b.dH+grpL b.pts:=by
 unfold Bd.node
 split
 ·rename_i h
  rw[List.isEmpty_iff]at h
  rw[h,eB,jo (by decide)]
  simp[grpL]
 ·rw[jo (by decide),bO,eB,jo (by decide)]
theorem grp_kid{n x:Nd}(h:n.kids=[]):grpN (ou n [x])=grpN n+grpN x:=by
 obtain⟨k,m,a,b,g,nm,s,ks⟩:=n
 obtain rfl:ks=[]:=h
 simp only[ou,Nd.kind,Nd.mode,Nd.a,Nd.b,Nd.neg,Nd.name,Nd.set,grpN,grpL]
 omega
theorem xA{c:Cl}(h:grpN c.left=0∧grpL c.mem=0):grpN c.node=0∧grpN c.inner=0:=by
 unfold Cl.node Cl.inner
 constructor<;>split<;>(rw[jo (by decide)];first|exact h.2|(simp only[grpL];rw[jo (by decide)];omega))
theorem kids_br(t:Tk)(k:Nat):(kJ t k).kids=[]:=by
 unfold kJ
 repeat' split
 all_goals rfl
/--As many groups with a number have been read as names; classes have none. -/
structure Cnt(s:PS):Prop where
 dS:gB s.bs=s.nm.length
 iJ:∀b∈s.bs,b.iJ.kids=[]
 cls:∀c∈s.cs,grpN c.left=0∧grpL c.mem=0
theorem Da{n:Nd}{l:List Bd}(h:l≠[]):gB (upd (eQ n) l)=gB l+grpN n:=by
 cases l with
 |nil=>exact absurd rfl h
 |cons b r=>simp only[upd,eQ,gB,bO];omega
theorem qY{f:Bd→Bd}(hf:∀b,(f b).iJ=b.iJ){l:List Bd}(h:∀b∈l,b.iJ.kids=[]):∀b∈upd f l,b.iJ.kids=[]:=by
 cases l with
 |nil=>exact h
 |cons b r=>
  intro x hx
  rcases List.mem_cons.1 hx with rfl|hx
  ·rw[hf];exact h b (by simp)
  ·exact h x (by simp[hx])
theorem I6{a n:Nd}{nm:List (List UInt8)}{sf:PS}{b1:Bd}(hb:sf.bs=[b1])(hi:Inv sf)(hc:sf.cs=[]){c:Tk}(hk:c.kind=4):
  stepS (deep a [] [b0] nm [] b1 sf) c=.ok ⟨0,[eQ (ou a [b1.node]) b0],[],nm⟩:=by
 obtain⟨nx,bs,cs,ns⟩:=sf
 obtain rfl:cs=[]:=hc
 obtain rfl:nx=0:=hi.2 rfl
 obtain rfl:bs=[b1]:=hb
 show outS _ c=_
 unfold outS
 rw[if_neg (by omega),if_pos hk]
 rfl
theorem run_snoc:∀(ts:List Tk)(c:Tk)(s:PS),runS s (ts++[c])=(match runS s ts with|.ok s'=>(match stepS s' c with|.ok s''=>.ok s''|.error e=>.error (e,c.s))|.error e=>.error e)
 |[],c,s=>by
  show runS s [c]=_
  rw[runS]
  simp only[runS]
  cases stepS s c<;>rfl
 |t::ts,c,s=>by
  rw[List.cons_append,runS]
  conv=>rhs;rw[runS]
  cases stepS s t with
  |ok s'=>exact run_snoc ts c s'
  |error e=>rfl
/--A pattern with no groups, within a bracket: what the bracket holds is its tree; or it is too deep there. -/
theorem I4{ts:List Tk}{sf:PS}{b1:Bd}(h:runS s0 ts=.ok sf)(hb:sf.bs=[b1])(hc:sf.cs=[])(hn:sf.nm=[])(hf:∀t∈ts,mX t){o c:Tk}(ho:o.kind=3)(hoc:c.kind=4):
  let ns:=if numbered o then[o.name]else[]
  runS s0 (o::ts++[c])=.ok ⟨0,[eQ (ou (kJ o ns.length) [b1.node]) b0],[],ns⟩∨∃i,runS s0 (o::ts++[c])=.error (153,i):=by
 intro ns
 have h1:stepS s0 o=.ok (deep (kJ o ns.length) [] [b0] ns [] b0 s0):=by
  show outS s0 o=_
  unfold outS dN
  rw[if_pos ho,if_neg (by decide),if_neg (by simp[s0]),if_neg (by simp[s0])]
  rfl
 obtain⟨mP,b2,hb2,h2⟩:=rQ (a:=kJ o ns.length) (pre:=[]) (und:=[b0]) (ns:=ns) h (gF:=[]) (b:=b0) rfl hn hf
 rw[hb]at hb2
 obtain⟨rfl,rfl⟩:mP=[]∧b2=b1:=by
  cases mP with
  |nil=>simpa[eq_comm]using hb2
  |cons x r=>simp at hb2
 rw[List.cons_append,runS,h1]
 dsimp only
 rw[run_snoc]
 rcases h2 with h2|⟨⟨i,h2⟩,_⟩
 ·rw[h2]
  dsimp only
  rw[I6 (n:=b2.node) hb (qR h (by unfold Inv;exact⟨fun _=>rfl,fun _=>rfl⟩)) hc hoc]
  exact .inl rfl
 ·rw[h2]
  exact .inr ⟨i,rfl⟩
end Go.Proofs.YtgbkolonhddolaaGreatDoor.prs
