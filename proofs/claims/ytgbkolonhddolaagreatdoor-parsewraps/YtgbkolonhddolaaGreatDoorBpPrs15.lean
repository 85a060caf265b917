import Derived.Test.YtgbkolonhddolaaGreatDoorBpPrs14
import Derived.Test.YtgbkolonhddolaaGreatDoorBpPrs4
import Derived.Test.YtgbkolonhddolaaGreatDoorBpTok5
import Derived.Test.YtgbkolonhddolaaGreatDoorBpTok3
set_option linter.unusedSectionVars false
set_option linter.unusedSimpArgs false
set_option linter.unusedVariables false
set_option maxRecDepth 100000
set_option maxHeartbeats 1000000
theorem Go.Proofs.YtgbkolonhddolaaGreatDoor.iq{p:Prop}(h:p):Go.RowKit.Hid p:=h
namespace Go.Proofs.YtgbkolonhddolaaGreatDoor.prs
open Go.RowKit nod tok
open lin(BA)
open tre(shortN Pw og)
/--What Parse comes to. -/
def Pd(w:World)(r:Nd×Int×Nat)(e:Ending)(w':World):Prop:=
 ∃y:Nv,e=.returned (.tuple #[a8 y,.agg #[.int .i64 r.2.1,.int .i64 ((r.2.2:Nat):Int)]])∧Fz (fun k=>w.heap.size≤k) w' r.1 (a8 y)∧Below w.heap.size w w'
theorem z_fz(P:Nat→Prop)(w:World):Fz P w zN (a8 z0):=(iH (P:=P) (w:=w) (n:=[]) ⟨ai 0 (by decide),ai 0 (by decide),ai 0 (by decide),ai 0 (by decide)⟩ (by decide))
theorem parse_any{ao:Option Addr}{n cap:Nat}{f:Nat→Int}{w:World}(hB:utf.oM w ao n f)(E:PEnv w)(hw:Pw w)(hf:∀i,0≤f i∧f i≤255)(hc:n≤cap)(hcm:cap≤9223372036854775807)(hn:n≤4611686018427387904)
  (hI:∀t∈(bD f n).1,tV t∧Jm t)(hL:(bD f n).1.length≤10000):
  Calls Tryz.prog 5 #[.slice ao n cap] w fun e w'=>Pd w (ax bU f n) e w':=by
 letI:Gh:=CU
 have HB2:Below w.heap.size w ((w.alloc (.cells #[.int .i64 0,.int .i64 0,.int .i64 0,.int .i64 0,.bool false,.string ⟨#[]⟩,.slice none 0 0,.slice none 0 0] 26)).alloc (.cells #[.int .i64 0,.int .i64 0] 29)):=((Below.refl _ w).alloc (Nat.le_refl _) _).alloc (by simp) _
 have N2:Bk ((w.alloc (.cells #[.int .i64 0,.int .i64 0,.int .i64 0,.int .i64 0,.bool false,.string ⟨#[]⟩,.slice none 0 0,.slice none 0 0] 26)).alloc (.cells #[.int .i64 0,.int .i64 0] 29)) w.heap.size #[.int .i64 0,.int .i64 0,.int .i64 0,.int .i64 0,.bool false,.string ⟨#[]⟩,.slice none 0 0,.slice none 0 0] 26:=(Bk.new w _ _).on ((Below.refl _ _).alloc (Nat.le_refl _) _)
 have F2:Bk ((w.alloc (.cells #[.int .i64 0,.int .i64 0,.int .i64 0,.int .i64 0,.bool false,.string ⟨#[]⟩,.slice none 0 0,.slice none 0 0] 26)).alloc (.cells #[.int .i64 0,.int .i64 0] 29)) (w.heap.size+1) #[.int .i64 0,.int .i64 0] 29:=by
  have:=Bk.new (w.alloc (.cells #[.int .i64 0,.int .i64 0,.int .i64 0,.int .i64 0,.bool false,.string ⟨#[]⟩,.slice none 0 0,.slice none 0 0] 26)) #[.int .i64 0,.int .i64 0] 29
  simpa using this
 obtain⟨w2,hw2⟩:∃w2,((w.alloc (.cells #[.int .i64 0,.int .i64 0,.int .i64 0,.int .i64 0,.bool false,.string ⟨#[]⟩,.slice none 0 0,.slice none 0 0] 26)).alloc (.cells #[.int .i64 0,.int .i64 0] 29))=w2:=⟨_,rfl⟩
 have HW2:=iq hw2
 rw[hw2]at HB2 N2 F2
 have hs2:w2.heap.size=w.heap.size+2:=by rw[←hw2];simp
 have CS:=yT ao n cap f w2 (hB.below HB2) (E.mks.below HB2) hf hc hcm
 have uj:Hid (Below w.heap.size w w2):=HB2
 have HN2:=iq N2
 have HF2:=iq F2
 have HE:Hid (PEnv w):=E
 have IJ:Hid (Pw w):=hw
 have Mf:Hid (ax bU f n=parseP bU (bD f n).1 (bD f n).2.1 (bD f n).2.2 n):=rfl
 obtain⟨RR,hRR⟩:∃RR,ax bU f n=RR:=⟨_,rfl⟩
 rw[hRR]at Mf⊢
 obtain⟨⟨L,C,Pp⟩,hsc⟩:∃x,bD f n=x:=⟨_,rfl⟩
 rw[hsc]at CS Mf hI hL
 simp only at CS Mf hI hL
 have HI:Hid (∀t∈L,tV t∧Jm t):=hI
 clear hw2 HB2 N2 F2 E hw hB hf hRR hsc hI
 go_enter Tryz.func5,Tryz.ntmps5
 go_upto_region 1 with fail
 rw[HW2.out]
 clear HW2
 go_wp2_with fail
 refine CS.mono ?_
 rintro e w3⟨tv,rfl,O3,B3⟩
 clear CS
 obtain⟨a,c3,rfl,hcap3,hv⟩:=yK O3
 have HB3:Hid (Below w2.heap.size w2 w3):=B3
 have hs3:=B3.size
 have B4:Below w3.heap.size w3 (w3.alloc (.cells #[.int .i64 C,.int .i64 (Pp:Int)] 29)):=(Below.refl _ w3).alloc (Nat.le_refl _) _
 have F4:Bk (w3.alloc (.cells #[.int .i64 C,.int .i64 (Pp:Int)] 29)) w3.heap.size #[.int .i64 C,.int .i64 (Pp:Int)] 29:=Bk.new w3 _ _
 obtain⟨w4,hw4⟩:∃w4,w3.alloc (.cells #[.int .i64 C,.int .i64 (Pp:Int)] 29)=w4:=⟨_,rfl⟩
 have HW4:=iq hw4
 rw[hw4]at B4 F4
 have hs4:w4.heap.size=w3.heap.size+1:=by rw[←hw4];simp
 have uO:Hid (Below w3.heap.size w3 w4):=B4
 have HF4:=iq F4
 have HV:Hid (∀i t,L[i]?=some t→∃g,a=some ⟨g,0,none⟩∧g<w4.heap.size∧tX w4 g (i*8) t):=fun i t ht=>by
  obtain⟨g,e,_,hg,hat⟩:=hv (by have:=(List.getElem?_eq_some_iff.1 ht).1;omega)
  exact⟨g,e,by omega,(hat i t ht).below B4⟩
 obtain⟨N,hN⟩:∃N,L.length=N:=⟨_,rfl⟩
 have HN:Hid (L.length=N):=hN
 rw[hN]at hL⊢
 have yA:Hid (w4.heap.size=w3.heap.size+1):=hs4
 have HZ:Hid (w2.heap.size=w.heap.size+2∧w2.heap.size≤w3.heap.size):=⟨hs2,hs3⟩
 clear O3 B3 hv hcap3 B4 F4 hw4 hN hs4 hs2 hs3
 go_upto_region 2 with fail
 rw[HW4.out]
 clear HW4
 go_wp2_with fail
 refine(uz w4).mono ?_
 rintro e w5⟨rfl,hb5,hS5⟩
 have ES:Hid (Below w4.heap.size w4 w5):=hb5
 have nO:=iq hS5
 have hs5:=hb5.size
 have CR:=JE (B:=w4.heap.size) (w:=w5) (pb:=w4.heap.size+1) (L:=L) (a:=a) (n:=N) (cap:=c3) hS5 (fun i t ht=>by obtain⟨g,e,hg,hat⟩:=HV.out i t ht;exact⟨g,e,hg,tX.keep hat hb5 hg⟩) (fun t ht=>(HI.out t ht).1) HN.out hL hs5
 have HZ5:Hid (w4.heap.size≤w5.heap.size):=hs5
 clear hb5 hS5 hs5
 go_wp2_with fail
 refine CR.mono ?_
 rintro e w6 hrd
 clear CR
 have H46:Below w4.heap.size w4 w6:=ES.out.trans hrd.1
 have Mq:Below w2.heap.size w2 w6:=(HB3.out.trans (ae uO.out HZ.out.2)).trans (ae H46 (by have:=HZ.out.2;have:=yA.out;omega))
 have N6:Bk w6 w.heap.size #[.int .i64 0,.int .i64 0,.int .i64 0,.int .i64 0,.bool false,.string ⟨#[]⟩,.slice none 0 0,.slice none 0 0] 26:=HN2.out.on Mq
 have F6:Bk w6 (w.heap.size+1) #[.int .i64 0,.int .i64 0] 29:=HF2.out.on Mq
 have C6:Bk w6 w3.heap.size #[.int .i64 C,.int .i64 (Pp:Int)] 29:=HF4.out.on H46
 have uP:Hid (Below w.heap.size w w6):=uj.out.trans (ae Mq (by have:=HZ.out.1;omega))
 have HP6:Hid (PEnv w):=HE.out
 clear HB3 uO ES nO HZ5 HV uj HN2 HF2 HF4
 obtain⟨pb,hpb⟩:∃pb,w4.heap.size+1=pb:=⟨_,rfl⟩
 have HPB:Hid (w4.heap.size+1=pb):=hpb
 rw[hpb]at hrd⊢
 clear hpb
 rcases hrd with⟨hb6,⟨c,i,hr,hc0,rfl⟩|⟨s,hr,hg,rfl,bl,cl,bv,cv,nv,hS⟩⟩
 ·have HR:Hid (RR=(zN,c,i)):=by unfold Hid;rw[Mf.out];unfold parseP;rw[hr]
  have bz:(c==0)=false:=by simpa using hc0
  have B7:Below w6.heap.size w6 (w6.alloc (.cells #[.int .i64 c,.int .i64 (i:Int)] 29)):=(Below.refl _ w6).alloc (Nat.le_refl _) _
  have F7:Bk (w6.alloc (.cells #[.int .i64 c,.int .i64 (i:Int)] 29)) w6.heap.size #[.int .i64 c,.int .i64 (i:Int)] 29:=Bk.new w6 _ _
  obtain⟨w7,hw7⟩:∃w7,w6.alloc (.cells #[.int .i64 c,.int .i64 (i:Int)] 29)=w7:=⟨_,rfl⟩
  have HW7:=iq hw7
  rw[hw7]at B7 F7
  have Mr:Hid (Below w.heap.size w w7):=uP.out.trans (ae B7 uP.out.size)
  have hne:w6.heap.size≠w.heap.size∧w6.heap.size≠w.heap.size+1:=by have:=N6.lt;have:=F6.lt;omega
  have x0:=F7.cell 0 (u:=.int .i64 c) rfl
  have x1:=F7.cell 1 (u:=.int .i64 (i:Int)) rfl
  have N8:=(N6.on B7).on (Below.refl _ w7).drew
  have F8:=(F6.on B7).on (Below.refl _ w7).drew
  have R8:=F7.on (Below.refl _ w7).drew
  have mW:Below w.heap.size w w7.drew:=Mr.out.drew
  have HN8:=iq N8
  have IQ:=iq F8
  have Mj:=iq hne
  have HR8:=iq R8
  have HH8:Hid (Below w.heap.size w w7.drew):=mW
  clear hr hw7 hb6 Mq H46 Mf B7 N6 F6 C6 N8 F8 R8 mW hne uP Mr IJ HP6 HI HN HPB
  go_upto_region 4 with fail
  rw[HW7.out]
  clear HW7
  go_upto_region 5 with fail
  have N8:=HN8.out
  have F8:=IQ.out
  have R8:=HR8.out
  have mW:=HH8.out
  have hne:=Mj.out
  have kM:Hid (∀tm:Array Value,tm.getD 2 undef=.pointer (some ⟨w.heap.size,0,none⟩)→tm.getD 3 undef=.pointer (some ⟨(w.heap.size+1),0,none⟩)→(results Tryz.f5 tm).run Tryz.prog (dK w7.drew w.heap.size (w.heap.size+1) z0 c (i:Int))=.ok (.tuple #[a8 z0,.agg #[.int .i64 c,.int .i64 (i:Int)]]) (dK w7.drew w.heap.size (w.heap.size+1) z0 c (i:Int))):=fun tm h2 h3=>jV Tryz.results5 tm N8 F8 (by omega) z0 c (i:Int) h2 h3
  have Mg:Hid (Pd w RR (.returned (.tuple #[a8 z0,.agg #[.int .i64 c,.int .i64 (i:Int)]])) (dK w7.drew w.heap.size (w.heap.size+1) z0 c (i:Int))):=by unfold Hid;rw[HR.out];exact⟨z0,rfl,z_fz _ _,gP mW (Nat.le_refl _) (Nat.le_succ _) z0 _ _⟩
  have HQ1:Hid (Bk (aC w7.drew w.heap.size 0 z0) w6.heap.size #[.int .i64 c,.int .i64 (i:Int)] 29):=(kF R8 hne.1 hne.2 z0 c (i:Int)).1
  have jv:Hid (Bk (dK w7.drew w.heap.size (w.heap.size+1) z0 c (i:Int)) w6.heap.size #[.int .i64 c,.int .i64 (i:Int)] 29):=(kF R8 hne.1 hne.2 z0 c (i:Int)).2
  have Mh:Hid (Bk (aC w7.drew w.heap.size 0 z0) (w.heap.size+1) #[.int .i64 0,.int .i64 0] 29):=((bX w7.drew w.heap.size 0 z0).block (w.heap.size+1) F8.lt (fun e=>by have:=Option.some.inj e;omega)).trans F8
  clear R8 mW hne HR8 HH8 HR
  have y0:=x0
  have y1:=x1
  have g0:=N8.cell 0 rfl
  have g1:=N8.cell 1 rfl
  have g2:=N8.cell 2 rfl
  have g3:=N8.cell 3 rfl
  have g4:=N8.cell 4 rfl
  have g5:=N8.cell 5 rfl
  have g6:=N8.cell 6 rfl
  have g7:=N8.cell 7 rfl
  have e0:=N8.frozen 0
  have e1:=N8.frozen 1
  have e2:=N8.frozen 2
  have e3:=N8.frozen 3
  have e4:=N8.frozen 4
  have e5:=N8.frozen 5
  have e6:=N8.frozen 6
  have e7:=N8.frozen 7
  have k0':=F8.cell 0 rfl
  have k1':=F8.cell 1 rfl
  have l0':=F8.frozen 0
  have l1':=F8.frozen 1
  have hne1:=Mj.out.1
  have hne2:=Mj.out.2
  clear N8 F8 HN8 IQ y0 y1
  refine lin.UH.begin (S:=fun w'=>w'.cell? ⟨w6.heap.size,0,none⟩=some (.int .i64 c)∧w'.cell? ⟨w6.heap.size,1,none⟩=some (.int .i64 (i:Int))) (by kernel_rfl) ⟨x0,x1⟩ (fun hHeld=>?_)
  clear x0 x1
  generalize w7.drew=w8 at*
  iterate 2
   refine lin.UH.take (v:=?_) rfl (by kernel_rfl) (fun _ _ _ h=>h) (by rfl) ?_ (by assumption) ?_
   rotate_left
   ·(intro w' hSw;(try dsimp only at hSw);go_simp;try with_reducible rfl)
   try simp only[Act.put,lin.sm]
  refine lin.UH.one (by kernel_rfl) rfl (fun K hK=>?_)
  go_simp
  refine hK.out _ (aC w8 w.heap.size 0 z0) ⟨HQ1.out.cell 0 rfl,HQ1.out.cell 1 rfl⟩ (fun jm=>?_)
  clear hK K
  try simp only[Act.put,lin.sm]
  have p0:=Mh.out.cell 0 rfl
  have p1:=Mh.out.cell 1 rfl
  have q0:=Mh.out.frozen 0
  have q1:=Mh.out.frozen 1
  refine lin.UH.one (by kernel_rfl) rfl (fun K hK=>?_)
  go_simp
  refine hK.out _ (dK w8 w.heap.size (w.heap.size+1) z0 c (i:Int)) ⟨jv.out.cell 0 rfl,jv.out.cell 1 rfl⟩ (fun CJ=>?_)
  clear hK K
  try simp only[Act.put,lin.sm]
  refine lin.UH.fin (by kernel_rfl) ?_
  clear hHeld jm CJ p0 p1 q0 q1 g0 g1 g2 g3 g4 g5 g6 g7 e0 e1 e2 e3 e4 e5 e6 e7 k0' k1' l0' l1' HQ1 jv Mh
  generalize dK w8 w.heap.size (w.heap.size+1) z0 c (i:Int)=W9 at*
  go_wp2
  exact bodyPost_ret (kM.out _ rfl rfl) rfl Mg.out
 ·have HR:Hid (C≠0→RR=(zN,C,Pp)):=fun h0=>by rw[Mf.out];unfold parseP;rw[hr];simp only;rw[if_pos h0]
  have HR2:Hid (C=0→RR=if s.depth≠0 then((zN,130,n):Nd×Int×Nat)else match s.bs with|[b]=>if bU b.node=true then(b.node,0,0)else(zN,4,n)|_=>(zN,1,0)):=fun h0=>by rw[Mf.out];unfold parseP;rw[hr];simp only;rw[if_neg (by simpa using h0)];rcases s with⟨nx,bs,cs,nm⟩;rcases bs with _|⟨b,_|⟨b2,r⟩⟩<;>rfl
  have B7:Below w6.heap.size w6 (w6.alloc (.cells #[.int .i64 0,.int .i64 0] 29)):=(Below.refl _ w6).alloc (Nat.le_refl _) _
  have F7:Bk (w6.alloc (.cells #[.int .i64 0,.int .i64 0] 29)) w6.heap.size #[.int .i64 0,.int .i64 0] 29:=Bk.new w6 _ _
  obtain⟨w7,hw7⟩:∃w7,w6.alloc (.cells #[.int .i64 0,.int .i64 0] 29)=w7:=⟨_,rfl⟩
  have HW7:=iq hw7
  rw[hw7]at B7 F7
  have Mr:Hid (Below w.heap.size w w7):=uP.out.trans (ae B7 uP.out.size)
  have k0:=F7.cell 0 (u:=.int .i64 0) rfl
  by_cases hC:C=0
  ·replace HR2:=iq (HR2.out hC)
   subst hC
   have c0:=(C6.on B7).cell 0 (u:=.int .i64 0) rfl
   obtain⟨b,bl',rfl⟩:∃b bl',bl=b::bl':=by
    have h1:=hg.1
    have h2:=hS.br.len
    cases bl with
    |nil=>exact absurd (List.length_eq_zero_iff.1 h2.symm) h1
    |cons b bl'=>exact⟨b,bl',rfl⟩
   have mV:=iq (hS.below B7)
   have HG:Hid (Good s):=hg
   have HRUN:Hid (runS s0 L=.ok s):=hr
   have HN7:=iq (N6.on B7)
   have HF7:=iq (F6.on B7)
   clear hr hw7 hb6 Mq H46 Mf B7 hS hg N6 F6 C6
   go_upto_region 4 with fail
   rw[HW7.out]
   clear HW7
   go_upto_region 8 with fail
   have CD:=Sx.depth (gh:=CU) (K:=N) mV.out (by omega)
   obtain⟨D,hD⟩:∃D,s.depth=D:=⟨_,rfl⟩
   have HD:Hid (s.depth=D):=hD
   rw[hD]at CD
   clear hD
   go_wp2_with fail
   refine CD.mono ?_
   rintro e w8⟨rfl,hb8⟩
   clear CD
   have nD:Hid (Below w7.heap.size w7 w8):=hb8
   clear hb8
   by_cases h0:D=0
   ·subst h0
    have hds:s.depth=0:=HD.out
    have hne0:=HG.out.1
    obtain⟨nx,bs,cs,nm⟩:=s
    simp only at hne0
    have h1:bs.length=1∧cs.length=0:=by
     unfold PS.depth at hds
     simp only at hds
     have:=List.length_pos_iff.2 hne0
     omega
    obtain⟨d,rfl⟩:=List.length_eq_one_iff.1 h1.1
    obtain rfl:=List.length_eq_zero_iff.1 h1.2
    have hS8:=mV.out.below nD.out
    have h2:=hS8.br.len
    obtain rfl:bl'=[]:=by simpa using h2
    obtain rfl:cl=[]:=by simpa using hS8.cx.len
    have HRt:Hid (RR=if bU d.node=true then(d.node,0,0)else(zN,4,n)):=by unfold Hid;rw[HR2.out,if_neg (by simpa using hds)]
    have HSH:Hid (shortN d.node):=((vz HRUN.out short0 fun t ht=>(HI.out t ht).2).1 d (by simp)).node
    obtain⟨g,cap,hbv,Cy⟩:=hS8.xO (by omega)
    have CB:=Cy w8 (Below.refl _ _)
    simp only[List.length_nil,Nat.zero_mul]at CB
    have HCN:Hid (∀w',Below w8.heap.size w8 w'→Calls Tryz.prog 18 #[.pointer (some ⟨g,0,none⟩)] w' fun e w''=>∃y,e=.returned (a8 y)∧Below w4.heap.size w' w''∧Fz (Dd w4.heap.size w'' []) w'' d.node (a8 y)):=fun w' hb=>by
     have h9:=hS8.below hb
     obtain⟨g',cap',hbv',hBg,_,_,_,hcell,_⟩:=h9.px.body
     obtain rfl:g=g':=by rw[hbv]at hbv';exact(by simpa using hbv':g=g'∧_).1
     have hro:=h9.rows.each (.slice b.ah.1 b.ah.2.1 b.ah.2.2,d.dH) (by simp[rowsOf,rowsB])
     obtain⟨ys,ho,_⟩:=hro
     have hlr:=h9.lr (.slice b.ah.1 b.ah.2.1 b.ah.2.2,d.dH) (by simp[rowsOf,rowsB])
     simp only at hlr
     refine(zx (B:=w4.heap.size) (w:=w') (pg:=g) (po:=0) (d:=d) (Q:=[]) (by simpa using hcell 8 _ rfl) (by simpa using hcell 9 _ rfl) (by simpa[rowsOf,rowsB,rowsC]using h9.rows) h9.base (by omega) (fun x e hx=>?_)).mono ?_
     ·subst hx
      rcases dC ho h9.px.bo (by decide)with h|h
      ·rw[e]at h;cases h
      ·exact h (by rw[e,hbv];rfl)
     ·rintro e w''⟨y,rfl,hg,hf,_⟩
      exact⟨y,rfl,Below.aF hg h9.base fun k e=>(ho.lt k e).1,hf⟩
    have HN8:=iq (HN7.out.on nD.out)
    have IQ:=iq (HF7.out.on nD.out)
    have mW:Hid (Below w.heap.size w w8):=Mr.out.trans (ae nD.out Mr.out.size)
    have HPE:Hid (PEnv w):=HP6.out
    have AV:Hid (Pw w):=IJ.out
    have dz:decide ((0:Int)<((0:Nat):Int))=false:=by decide
    have H4w:Hid (w.heap.size+2≤w4.heap.size):=by have:=HZ.out.1;have:=HZ.out.2;have:=yA.out;unfold Hid;omega
    clear hds hne0 h1 hS8 h2 hbv Cy HR HR2 mV HG HN7 HF7 HD uP Mr nD IJ HP6 HI HN HPB HRUN
    go_upto_region 10 with fail
    go_wp2_with fail
    refine CB.mono ?_
    rintro e w9⟨rfl,hb9⟩
    clear CB
    have CN:=HCN.out w9 hb9
    have HB9:Hid (Below w8.heap.size w8 w9):=hb9
    clear hb9
    go_wp2_with fail
    refine CN.mono ?_
    rintro e qG⟨⟨yk,ym,ya,yb,yg,yn,fB,fw,fA⟩,rfl,uE,hf10⟩
    dsimp only[a8]
    clear CN HCN
    have HN10:Hid (Bk qG w.heap.size #[.int .i64 0,.int .i64 0,.int .i64 0,.int .i64 0,.bool false,.string ⟨#[]⟩,.slice none 0 0,.slice none 0 0] 26):=(uE.block _ (by have:=H4w.out;omega)).trans (HN8.out.on HB9.out)
    have HF10:Hid (Bk qG (w.heap.size+1) #[.int .i64 0,.int .i64 0] 29):=(uE.block _ (by have:=H4w.out;omega)).trans (IQ.out.on HB9.out)
    have uR:Hid (Below w.heap.size w qG):=(mW.out.trans (ae HB9.out mW.out.size)).trans (ae uE (by have:=H4w.out;omega))
    have HFZ:=iq hf10
    clear uE hf10 HN8 IQ mW HB9
    have B11:Below qG.heap.size qG (qG.alloc (.cells #[.int .i64 yk,.int .i64 ym,.int .i64 ya,.int .i64 yb,.bool yg,.string yn,.slice none 0 0,.slice fB fw fA] 26)):=(Below.refl _ qG).alloc (Nat.le_refl _) _
    have T11:Bk (qG.alloc (.cells #[.int .i64 yk,.int .i64 ym,.int .i64 ya,.int .i64 yb,.bool yg,.string yn,.slice none 0 0,.slice fB fw fA] 26)) qG.heap.size #[.int .i64 yk,.int .i64 ym,.int .i64 ya,.int .i64 yb,.bool yg,.string yn,.slice none 0 0,.slice fB fw fA] 26:=Bk.new qG _ _
    obtain⟨uu,hw11⟩:∃uu,qG.alloc (.cells #[.int .i64 yk,.int .i64 ym,.int .i64 ya,.int .i64 yb,.bool yg,.string yn,.slice none 0 0,.slice fB fw fA] 26)=uu:=⟨_,rfl⟩
    have HW11:=iq hw11
    rw[hw11]at B11 T11
    have Mo:Hid (Below qG.heap.size qG uu):=B11
    have uK:=iq T11
    have CC:=tre.can_any (W:=uu) (v:=a8 ⟨yk,ym,ya,yb,yg,yn,fB,fw,fA⟩) (t:=d.node) d.node.sz (Nat.le_refl _) HSH.out ((HPE.out.below uR.out).below B11) ((AV.out.on uR.out).on B11) ((HFZ.out.nv.on B11 (Nat.le_refl _)).wide B11.size)
    obtain⟨cb,hcb⟩:∃cb,bU d.node=cb:=⟨_,rfl⟩
    rw[show(og d.node.sz d.node).isSome=cb from hcb]at CC
    replace HRt:Hid (RR=if cb=true then(d.node,0,0)else(zN,4,n)):=by unfold Hid;rw[HRt.out,hcb]
    clear hw11 B11 T11 hcb HSH HPE AV
    unfold a8 at CC
    go_upto_region 11 with fail
    rw[HW11.out]
    clear HW11
    have t0:=uK.out.cell 0 rfl
    have t1:=uK.out.cell 1 rfl
    have t2:=uK.out.cell 2 rfl
    have t3:=uK.out.cell 3 rfl
    have t4:=uK.out.cell 4 rfl
    have t5:=uK.out.cell 5 rfl
    have t6:=uK.out.cell 6 rfl
    have t7:=uK.out.cell 7 rfl
    go_wp2_with fail
    refine CC.mono ?_
    rintro e E5⟨rfl,KM⟩
    clear CC t0 t1 t2 t3 t4 t5 t6 t7
    have N8:Bk E5 w.heap.size #[.int .i64 0,.int .i64 0,.int .i64 0,.int .i64 0,.bool false,.string ⟨#[]⟩,.slice none 0 0,.slice none 0 0] 26:=(HN10.out.on Mo.out).on KM
    have F8:Bk E5 (w.heap.size+1) #[.int .i64 0,.int .i64 0] 29:=(HF10.out.on Mo.out).on KM
    have H12:Below qG.heap.size qG E5:=Mo.out.trans (ae KM Mo.out.size)
    have qi:=iq (uK.out.on KM)
    have uQ:Below w.heap.size w E5:=uR.out.trans (ae H12 uR.out.size)
    have g0:=N8.cell 0 rfl
    have g1:=N8.cell 1 rfl
    have g2:=N8.cell 2 rfl
    have g3:=N8.cell 3 rfl
    have g4:=N8.cell 4 rfl
    have g5:=N8.cell 5 rfl
    have g6:=N8.cell 6 rfl
    have g7:=N8.cell 7 rfl
    have e0:=N8.frozen 0
    have e1:=N8.frozen 1
    have e2:=N8.frozen 2
    have e3:=N8.frozen 3
    have e4:=N8.frozen 4
    have e5:=N8.frozen 5
    have e6:=N8.frozen 6
    have e7:=N8.frozen 7
    have k0':=F8.cell 0 rfl
    have k1':=F8.cell 1 rfl
    have l0':=F8.frozen 0
    have l1':=F8.frozen 1
    clear HN10 HF10 uK Mo KM
    cases cb
    ·have kM:Hid (∀tm:Array Value,tm.getD 2 undef=.pointer (some ⟨w.heap.size,0,none⟩)→tm.getD 3 undef=.pointer (some ⟨(w.heap.size+1),0,none⟩)→(results Tryz.f5 tm).run Tryz.prog (dK E5 w.heap.size (w.heap.size+1) z0 4 (n:Int))=.ok (.tuple #[a8 z0,.agg #[.int .i64 4,.int .i64 (n:Int)]]) (dK E5 w.heap.size (w.heap.size+1) z0 4 (n:Int))):=fun tm h2 h3=>jV Tryz.results5 tm N8 F8 (by omega) z0 4 (n:Int) h2 h3
     have Mg:Hid (Pd w RR (.returned (.tuple #[a8 z0,.agg #[.int .i64 4,.int .i64 (n:Int)]])) (dK E5 w.heap.size (w.heap.size+1) z0 4 (n:Int))):=by unfold Hid;rw[HRt.out];exact⟨z0,rfl,z_fz _ _,gP uQ (Nat.le_refl _) (Nat.le_succ _) z0 _ _⟩
     clear N8 F8 uQ HRt
     clear qi HFZ uR H4w H12
     go_upto_region 12 with fail
     go_wp2
     refine bodyPost_ret (w:=dK E5 w.heap.size (w.heap.size+1) z0 4 (n:Int)) (kM.out _ rfl rfl) rfl Mg.out
    ·have hkeep:Fz (fun k=>w.heap.size≤k) (dK E5 w.heap.size (w.heap.size+1) ⟨yk,ym,ya,yb,yg,yn,fB,fw,fA⟩ 0 0) d.node (a8 ⟨yk,ym,ya,yb,yg,yn,fB,fw,fA⟩):=HFZ.out.to (Nat.le_trans H12.size (vS _ _ _ _ _ _)) fun k hk hd=>⟨(sU (Nat.lt_of_lt_of_le hk H12.size) (by have:=hd.1.2;have:=H4w.out;omega) (by have:=hd.1.2;have:=H4w.out;omega) _ 0 0).trans (H12.block k hk),by have:=hd.1.2;have:=H4w.out;omega⟩
     have kM:Hid (∀tm:Array Value,tm.getD 2 undef=.pointer (some ⟨w.heap.size,0,none⟩)→tm.getD 3 undef=.pointer (some ⟨(w.heap.size+1),0,none⟩)→(results Tryz.f5 tm).run Tryz.prog (dK E5 w.heap.size (w.heap.size+1) ⟨yk,ym,ya,yb,yg,yn,fB,fw,fA⟩ 0 0)=.ok (.tuple #[a8 ⟨yk,ym,ya,yb,yg,yn,fB,fw,fA⟩,.agg #[.int .i64 0,.int .i64 0]]) (dK E5 w.heap.size (w.heap.size+1) ⟨yk,ym,ya,yb,yg,yn,fB,fw,fA⟩ 0 0)):=fun tm h2 h3=>jV Tryz.results5 tm N8 F8 (by omega) ⟨yk,ym,ya,yb,yg,yn,fB,fw,fA⟩ 0 0 h2 h3
     have Mg:Hid (Pd w RR (.returned (.tuple #[a8 ⟨yk,ym,ya,yb,yg,yn,fB,fw,fA⟩,.agg #[.int .i64 0,.int .i64 0]])) (dK E5 w.heap.size (w.heap.size+1) ⟨yk,ym,ya,yb,yg,yn,fB,fw,fA⟩ 0 0)):=by unfold Hid;rw[HRt.out];exact⟨⟨yk,ym,ya,yb,yg,yn,fB,fw,fA⟩,rfl,hkeep,gP uQ (Nat.le_refl _) (Nat.le_succ _) ⟨yk,ym,ya,yb,yg,yn,fB,fw,fA⟩ _ _⟩
     clear N8 F8 uQ HRt
     have s0':=qi.out.cell 0 rfl
     have s1':=qi.out.cell 1 rfl
     have s2':=qi.out.cell 2 rfl
     have s3':=qi.out.cell 3 rfl
     have s4':=qi.out.cell 4 rfl
     have s5':=qi.out.cell 5 rfl
     have s6':=qi.out.cell 6 rfl
     have s7':=qi.out.cell 7 rfl
     clear qi HFZ uR H4w H12 hkeep
     go_upto_region 13 with fail
     go_wp2
     refine bodyPost_ret (w:=dK E5 w.heap.size (w.heap.size+1) ⟨yk,ym,ya,yb,yg,yn,fB,fw,fA⟩ 0 0) (kM.out _ rfl rfl) rfl Mg.out
   ·have dz:decide ((0:Int)<(D:Int))=true:=by simp;omega
    have dz2:0<D:=by omega
    have dz3:decide (0<D)=true:=by simp;omega
    have HRd:Hid (RR=(zN,130,n)):=by unfold Hid;rw[HR2.out,HD.out,if_pos h0]
    have N8:=HN7.out.on nD.out
    have F8:=HF7.out.on nD.out
    have mW:Below w.heap.size w w8:=Mr.out.trans (ae nD.out Mr.out.size)
    have kM:Hid (∀tm:Array Value,tm.getD 2 undef=.pointer (some ⟨w.heap.size,0,none⟩)→tm.getD 3 undef=.pointer (some ⟨w.heap.size+1,0,none⟩)→(results Tryz.f5 tm).run Tryz.prog (dK w8 w.heap.size (w.heap.size+1) z0 130 (n:Int))=.ok (.tuple #[a8 z0,.agg #[.int .i64 130,.int .i64 (n:Int)]]) (dK w8 w.heap.size (w.heap.size+1) z0 130 (n:Int))):=fun tm h2 h3=>jV Tryz.results5 tm N8 F8 (by omega) z0 130 (n:Int) h2 h3
    have Mg:Hid (Pd w RR (.returned (.tuple #[a8 z0,.agg #[.int .i64 130,.int .i64 (n:Int)]])) (dK w8 w.heap.size (w.heap.size+1) z0 130 (n:Int))):=by unfold Hid;rw[HRd.out];exact⟨z0,rfl,z_fz _ _,gP mW (Nat.le_refl _) (Nat.le_succ _) z0 _ _⟩
    have g0:=N8.cell 0 rfl
    have g1:=N8.cell 1 rfl
    have g2:=N8.cell 2 rfl
    have g3:=N8.cell 3 rfl
    have g4:=N8.cell 4 rfl
    have g5:=N8.cell 5 rfl
    have g6:=N8.cell 6 rfl
    have g7:=N8.cell 7 rfl
    have e0:=N8.frozen 0
    have e1:=N8.frozen 1
    have e2:=N8.frozen 2
    have e3:=N8.frozen 3
    have e4:=N8.frozen 4
    have e5:=N8.frozen 5
    have e6:=N8.frozen 6
    have e7:=N8.frozen 7
    have k0':=F8.cell 0 rfl
    have k1':=F8.cell 1 rfl
    have l0':=F8.frozen 0
    have l1':=F8.frozen 1
    clear N8 F8 mW h0 HRd HR HR2 mV HG HN7 HF7 HD uP Mr IJ HP6 HI HN HPB
    go_upto_region 9 with fail
    go_wp2
    refine bodyPost_ret (w:=dK w8 w.heap.size (w.heap.size+1) z0 130 (n:Int)) (kM.out _ rfl rfl) rfl Mg.out
  ·have bz:(C==0)=false:=by simpa using hC
   replace HR:Hid (RR=(zN,C,Pp)):=HR.out hC
   have F5:=C6.on B7
   have hne:w3.heap.size≠w.heap.size∧w3.heap.size≠w.heap.size+1:=by have:=HZ.out.1;have:=HZ.out.2;omega
   clear hS hg HR2 hC
   have x0:=F5.cell 0 (u:=.int .i64 C) rfl
   have x1:=F5.cell 1 (u:=.int .i64 (Pp:Int)) rfl
   have N8:=(N6.on B7).on (Below.refl _ w7).drew
   have F8:=(F6.on B7).on (Below.refl _ w7).drew
   have R8:=F5.on (Below.refl _ w7).drew
   have mW:Below w.heap.size w w7.drew:=Mr.out.drew
   have HN8:=iq N8
   have IQ:=iq F8
   have Mj:=iq hne
   have HR8:=iq R8
   have HH8:Hid (Below w.heap.size w w7.drew):=mW
   clear hr hw7 hb6 Mq H46 Mf B7 N6 F6 C6 N8 F8 R8 mW hne uP Mr IJ HP6 HI HN HPB
   go_upto_region 4 with fail
   rw[HW7.out]
   clear HW7
   go_upto_region 7 with fail
   have N8:=HN8.out
   have F8:=IQ.out
   have R8:=HR8.out
   have mW:=HH8.out
   have hne:=Mj.out
   have kM:Hid (∀tm:Array Value,tm.getD 2 undef=.pointer (some ⟨w.heap.size,0,none⟩)→tm.getD 3 undef=.pointer (some ⟨(w.heap.size+1),0,none⟩)→(results Tryz.f5 tm).run Tryz.prog (dK w7.drew w.heap.size (w.heap.size+1) z0 C (Pp:Int))=.ok (.tuple #[a8 z0,.agg #[.int .i64 C,.int .i64 (Pp:Int)]]) (dK w7.drew w.heap.size (w.heap.size+1) z0 C (Pp:Int))):=fun tm h2 h3=>jV Tryz.results5 tm N8 F8 (by omega) z0 C (Pp:Int) h2 h3
   have Mg:Hid (Pd w RR (.returned (.tuple #[a8 z0,.agg #[.int .i64 C,.int .i64 (Pp:Int)]])) (dK w7.drew w.heap.size (w.heap.size+1) z0 C (Pp:Int))):=by unfold Hid;rw[HR.out];exact⟨z0,rfl,z_fz _ _,gP mW (Nat.le_refl _) (Nat.le_succ _) z0 _ _⟩
   have HQ1:Hid (Bk (aC w7.drew w.heap.size 0 z0) w3.heap.size #[.int .i64 C,.int .i64 (Pp:Int)] 29):=(kF R8 hne.1 hne.2 z0 C (Pp:Int)).1
   have jv:Hid (Bk (dK w7.drew w.heap.size (w.heap.size+1) z0 C (Pp:Int)) w3.heap.size #[.int .i64 C,.int .i64 (Pp:Int)] 29):=(kF R8 hne.1 hne.2 z0 C (Pp:Int)).2
   have Mh:Hid (Bk (aC w7.drew w.heap.size 0 z0) (w.heap.size+1) #[.int .i64 0,.int .i64 0] 29):=((bX w7.drew w.heap.size 0 z0).block (w.heap.size+1) F8.lt (fun e=>by have:=Option.some.inj e;omega)).trans F8
   clear R8 mW hne HR8 HH8 HR
   have y0:=x0
   have y1:=x1
   have g0:=N8.cell 0 rfl
   have g1:=N8.cell 1 rfl
   have g2:=N8.cell 2 rfl
   have g3:=N8.cell 3 rfl
   have g4:=N8.cell 4 rfl
   have g5:=N8.cell 5 rfl
   have g6:=N8.cell 6 rfl
   have g7:=N8.cell 7 rfl
   have e0:=N8.frozen 0
   have e1:=N8.frozen 1
   have e2:=N8.frozen 2
   have e3:=N8.frozen 3
   have e4:=N8.frozen 4
   have e5:=N8.frozen 5
   have e6:=N8.frozen 6
   have e7:=N8.frozen 7
   have k0':=F8.cell 0 rfl
   have k1':=F8.cell 1 rfl
   have l0':=F8.frozen 0
   have l1':=F8.frozen 1
   have hne1:=Mj.out.1
   have hne2:=Mj.out.2
   clear N8 F8 HN8 IQ y0 y1
   refine lin.UH.begin (S:=fun w'=>w'.cell? ⟨w3.heap.size,0,none⟩=some (.int .i64 C)∧w'.cell? ⟨w3.heap.size,1,none⟩=some (.int .i64 (Pp:Int))) (by kernel_rfl) ⟨x0,x1⟩ (fun hHeld=>?_)
   clear x0 x1
   generalize w7.drew=w8 at*
   iterate 2
    refine lin.UH.take (v:=?_) rfl (by kernel_rfl) (fun _ _ _ h=>h) (by rfl) ?_ (by assumption) ?_
    rotate_left
    ·(intro w' hSw;(try dsimp only at hSw);go_simp;try with_reducible rfl)
    try simp only[Act.put,lin.sm]
   refine lin.UH.one (by kernel_rfl) rfl (fun K hK=>?_)
   go_simp
   refine hK.out _ (aC w8 w.heap.size 0 z0) ⟨HQ1.out.cell 0 rfl,HQ1.out.cell 1 rfl⟩ (fun jm=>?_)
   clear hK K
   try simp only[Act.put,lin.sm]
   have p0:=Mh.out.cell 0 rfl
   have p1:=Mh.out.cell 1 rfl
   have q0:=Mh.out.frozen 0
   have q1:=Mh.out.frozen 1
   refine lin.UH.one (by kernel_rfl) rfl (fun K hK=>?_)
   go_simp
   refine hK.out _ (dK w8 w.heap.size (w.heap.size+1) z0 C (Pp:Int)) ⟨jv.out.cell 0 rfl,jv.out.cell 1 rfl⟩ (fun CJ=>?_)
   clear hK K
   try simp only[Act.put,lin.sm]
   refine lin.UH.fin (by kernel_rfl) ?_
   clear hHeld jm CJ p0 p1 q0 q1 g0 g1 g2 g3 g4 g5 g6 g7 e0 e1 e2 e3 e4 e5 e6 e7 k0' k1' l0' l1' HQ1 jv Mh
   generalize dK w8 w.heap.size (w.heap.size+1) z0 C (Pp:Int)=W9 at*
   go_wp2
   exact bodyPost_ret (kM.out _ rfl rfl) rfl Mg.out
end Go.Proofs.YtgbkolonhddolaaGreatDoor.prs
section
namespace Go.Proofs.YtgbkolonhddolaaGreatDoor.prs
open nod tok
open utf(it len)
def Sm(x:Int):Prop:=-1≤x∧x≤1099511627776
def St(t:Tk):Prop:=Sm t.kind∧Sm t.mode∧Sm t.a∧Sm t.b∧t.name.length≤4000
theorem St.ti{t:Tk}(h:St t):tV t∧Jm t:=by
 obtain⟨h1,h2,h3,h4,h5⟩:=h
 unfold Sm at h1 h2 h3 h4
 exact⟨⟨by unfold dQ;omega,by unfold dQ;omega,by unfold dQ;omega,by unfold dQ;omega,by show t.name.toArray.size≤maxLen;rw[List.size_toArray];unfold maxLen;omega⟩,by unfold Jm;omega⟩
theorem Gives.lT{α β:Type}{P:α→Prop}{Q:β→Prop}{o:Out α}{g:α→Nat→Out β}(h:Gives P o)(hk:∀v a,P v→Gives Q (g v a)):Gives Q (o.bind g):=by
 cases o with
 |ok v a=>exact hk v a h
 |no c p=>trivial
section
variable(f:Nat→Int)(n:Nat)(hf:∀i,0≤f i∧f i≤255)(hn:n≤2000)
theorem Ei(hf:∀i,0≤f i∧f i≤255)(a:Nat):Gives (fun c=>0≤c∧c≤255) (bL f n a):=by unfold bL;split;exact hf a;trivial
theorem Ef(hf:∀i,0≤f i∧f i≤255)(a:Nat):Gives Sm (point f n a):=by
 unfold point
 split
 ·split
  ·have:=utf.it_len f n a hf
   show Sm _
   unfold Sm
   unfold len at this
   generalize(it f n a).1=r at*
   by_cases h:r<0∨1114111<r∨(55296≤r∧r≤57343)
   ·rw[if_pos h]at this;exact absurd rfl this
   ·omega
  ·trivial
 ·trivial
theorem numR_g(hf:∀i,0≤f i∧f i≤255)(st:Nat)(base:Int)(h0:0<base)(h16:base≤16):∀(left:Nat)(acc:Int)(first:Bool)(a:Nat),0≤acc→Gives (fun q=>0≤q.1∧q.1≤(acc+1)*16^left) (numR f n st base left acc first a):=by
 have hd:∀c:Int,0≤c→lN c base<base→0≤lN c base∧lN c base≤15:=by intro c h1 h;unfold lN at h⊢;(repeat' split)<;>split at h<;>omega
 intro left
 induction left with
 |zero=>
  intro acc first a h
  rw[numR_step]
  refine Gives.lT (Ei f n hf a) fun c a' hc=>?_
  split
  ·trivial
  ·split
   ·trivial
   ·exact⟨h,by show acc≤_;omega⟩
 |succ left ih=>
  intro acc first a h
  rw[numR_step]
  refine Gives.lT (Ei f n hf a) fun c a' hc=>?_
  split
  ·rename_i hb
   have h2:=hd c hc.1 hb
   have h3:0≤acc*base:=Int.mul_nonneg h (by omega)
   have h4:acc*base≤acc*16:=Int.mul_le_mul_of_nonneg_left h16 h
   have h5:=ih (acc*base+lN c base) false a' (by omega)
   show Gives _ (numR f n st base left (acc*base+lN c base) false a')
   cases e:numR f n st base left (acc*base+lN c base) false a' with
   |no c p=>trivial
   |ok q a2=>
    rw[e]at h5
    refine⟨h5.1,Int.le_trans h5.2 ?_⟩
    rw[Int.pow_succ,Int.mul_comm ((16:Int)^left) 16,←Int.mul_assoc]
    exact Int.mul_le_mul_of_nonneg_right (by omega) (Int.pow_nonneg (by decide))
  ·split
   ·trivial
   ·refine⟨h,?_⟩
    show acc≤(acc+1)*16^(left+1)
    have:(1:Int)≤16^(left+1):=Int.pow_pos (by decide)
    have h6:=Int.mul_le_mul_of_nonneg_left this (by omega:(0:Int)≤acc+1)
    omega
theorem om(hf:∀i,0≤f i∧f i≤255)(st:Nat)(base:Int)(h0:0<base)(h16:base≤16)(most a:Nat)(hm:most≤6):Gives (fun q=>Sm q.1) (number f n st base most a):=by
 have h:=numR_g f n hf st base h0 h16 most 0 true a (by decide)
 unfold number
 cases e:numR f n st base most 0 true a with
 |no c p=>trivial
 |ok q a2=>
  rw[e]at h
  refine⟨by have:=h.1;omega,Int.le_trans h.2 ?_⟩
  rcases(show most=0∨most=1∨most=2∨most=3∨most=4∨most=5∨most=6 by omega)with rfl|rfl|rfl|rfl|rfl|rfl|rfl<;>decide
theorem J3(hn:n≤2000)(st b:Nat):∀(left a:Nat),Gives (fun s=>s.length≤4000) (nmR f n st b left a):=by
 intro left
 induction left with
 |zero=>
  intro a
  rw[jQ]
  unfold bL
  split
  ·show Gives _ (if _ then _ else _)
   split
   ·show(tok.bytes f b a).length≤4000
    rw[qb];omega
   ·trivial
  ·trivial
 |succ left ih=>
  intro a
  rw[jQ]
  unfold bL
  split
  ·show Gives _ (if _ then _ else _)
   split
   ·show(tok.bytes f b a).length≤4000
    rw[qb];omega
   ·show Gives _ (if _ then _ else _)
    split
    ·exact ih _
    ·trivial
  ·trivial
theorem meant_g(st b e:Nat):Gives (fun s=>s.length≤4000) (meant f st b e):=by
 unfold meant
 split
 ·show(qa _).length≤4000
  have:=ny (lin.BA (tok.bytes f b (e-1)))
  unfold qa
  (repeat' split)<;>simp<;>omega
 ·trivial
theorem expr_g(st a:Nat):Gives (fun s=>s.length≤4000) (expr f n st a):=by unfold expr;exact Gives.bind fun _ b=>Gives.bind fun _ e=>meant_g f st b e
theorem iQ(x:Int)(h:-1≤x∧x≤100000):Sm x:=by unfold Sm;omega
theorem fM:Sm 0:=iQ 0 (by decide)
theorem yt(k m:Int){a b:Int}{nm:List UInt8}{ng:Bool}{s e:Nat}(h:(-1≤k∧k≤100000)∧-1≤m∧m≤100000)(ha:Sm a)(hb:Sm b)(hl:nm.length≤4000):St ⟨k,m,a,b,nm,ng,s,e⟩:=⟨iQ _ h.1,iQ _ h.2,ha,hb,hl⟩
theorem Ee(x y:Int)(a:Nat)(hx:Sm x)(hy:Sm y):Gives St (rep f n x y a):=by unfold rep;(repeat' split)<;>exact yt _ _ (by decide) hx hy (by first|exact Nat.zero_le _|decide)
theorem EG(a:Nat):Gives St (dV f n a):=by unfold dV;(repeat' split)<;>exact yt _ _ (by decide) fM fM (by first|exact Nat.zero_le _|decide)
theorem H9(hf:∀i,0≤f i∧f i≤255)(st a:Nat):Gives St (counted f n st a):=by
 unfold counted
 refine Gives.lT (om f n hf st 10 (by decide) (by decide) 3 a (by decide)) fun q b hq=>?_
 split
 ·split
  ·exact Ee f n _ _ _ hq (iQ _ (by decide))
  ·trivial
 ·split
  ·refine Gives.lT (om f n hf st 10 (by decide) (by decide) 3 b (by decide)) fun p e hp=>?_
   split
   ·exact Ee f n _ _ _ hq hp
   ·trivial
  ·split
   ·exact Ee f n _ _ _ hq hq
   ·trivial
theorem Cf(hf:∀i,0≤f i∧f i≤255)(hn:n≤2000)(st a:Nat):Gives St (bG f n st a):=by
 unfold bG
 (repeat' split)<;>first|exact yt _ _ (by decide) fM fM (by first|exact Nat.zero_le _|decide)|exact Gives.lT (J3 f n hn st a 20 a) fun q b hq=>yt _ _ (by decide) fM fM hq
theorem open_g(hf:∀i,0≤f i∧f i≤255)(hn:n≤2000)(st a:Nat):Gives St (open_ f n st a):=by
 unfold open_
 split
 ·refine Gives.bind fun c b=>?_
  (repeat' split)<;>first|exact yt _ _ (by decide) fM fM (by first|exact Nat.zero_le _|decide)|exact Cf f n hf hn st b|trivial
 ·exact yt _ _ (by decide) fM fM (by first|exact Nat.zero_le _|decide)
theorem edge_g(st:Nat)(x y z:Int)(a:Nat)(hx:Sm x)(hy:Sm y)(hz:Sm z):Gives St (edge f n st x y z a):=by
 have h:∀m,Sm m→St (gT m):=fun m hm=>⟨iQ 7 (by decide),hm,fM,fM,Nat.zero_le _⟩
 unfold edge
 split
 ·refine Gives.bind fun c b=>?_
  (repeat' split)<;>first|exact Gives.bind fun q b=>h _ hy|exact Gives.bind fun q b=>h _ hz|trivial
 ·exact h _ hx
theorem back_g(hf:∀i,0≤f i∧f i≤255)(hn:n≤2000)(st a:Nat):Gives St (back f n st a):=by
 unfold back
 refine Gives.bind fun c b=>?_
 split
 ·exact Gives.lT (J3 f n hn st b 20 b) fun q b hq=>yt _ _ (by decide) fM fM hq
 ·split
  ·refine Gives.lT (om f n hf st 10 (by decide) (by decide) 2 b (by decide)) fun q b hq=>?_
   split
   ·exact yt _ _ (by decide) hq fM (by first|exact Nat.zero_le _|decide)
   ·trivial
  ·trivial
theorem hex_g(hf:∀i,0≤f i∧f i≤255)(st a:Nat):Gives St (hex f n st a):=by
 unfold hex
 refine Gives.bind fun c b=>Gives.lT (om f n hf st 16 (by decide) (by decide) 6 b (by decide)) fun q b hq=>?_
 split
 ·exact yt _ _ (by decide) hq fM (by first|exact Nat.zero_le _|decide)
 ·trivial
theorem mark_g(hf:∀i,0≤f i∧f i≤255)(hn:n≤2000)(st:Nat)(r:Int)(a:Nat)(hr:Sm r):Gives St (tok.mark f n st r a):=by
 unfold tok.mark
 (repeat' split)<;>first|exact yt _ _ (by decide) fM fM (by first|exact Nat.zero_le _|decide)|exact open_g f n hf hn st a|exact Ee f n _ _ _ (iQ _ (by decide)) (iQ _ (by decide))|exact H9 f n hf st a|exact yt _ _ (by decide) hr fM (by first|exact Nat.zero_le _|decide)
theorem La(hf:∀i,0≤f i∧f i≤255)(hn:n≤2000)(st:Nat)(r:Int)(a:Nat):Gives St (aB f n st r a):=by
 unfold aB
 (repeat' split)<;>first|exact yt _ _ (by decide) fM fM (by first|exact Nat.zero_le _|decide)|exact edge_g f n st _ _ _ a (iQ _ (by decide)) (iQ _ (by decide)) (iQ _ (by decide))|exact back_g f n hf hn st a|exact yt _ _ (by decide) (iQ _ (by show-1≤r-48∧r-48≤100000;omega)) fM (by first|exact Nat.zero_le _|decide)|trivial
theorem K8(hf:∀i,0≤f i∧f i≤255)(hn:n≤2000)(st a k:Nat):Gives St (escape f n st a k):=by
 unfold escape
 refine Gives.lT (Ef f n hf a) fun r b hr=>?_
 repeat' first|exact La f n hf hn st r b|exact hex_g f n hf st b|refine Gives.ite ?_ ?_
 all_goals first|exact Gives.lT (expr_g f n st b) (fun s e hs=>yt _ _ (by decide) fM fM hs)|exact yt _ _ (by decide) fM fM (by first|exact Nat.zero_le _|decide)|exact yt _ _ (by decide) hr fM (by first|exact Nat.zero_le _|decide)|trivial
theorem wL{k:Nat}{o:Out Tk}(h:Gives St o):Gives (fun q=>St q.1) (o.with_ k):=by
 cases o with
 |ok t a=>exact h
 |no c p=>trivial
theorem token_g(hf:∀i,0≤f i∧f i≤255)(hn:n≤2000)(st k:Nat):Gives (fun q=>St q.1) (token f n st k):=by
 unfold token
 refine Gives.lT (Ef f n hf st) fun r a hr=>?_
 have h1:St (char r):=yt _ _ (by decide) hr fM (by first|exact Nat.zero_le _|decide)
 split
 ·exact wL (K8 f n hf hn st a k)
 ·split
  ·unfold within
   split
   ·exact wL (EG f n a)
   ·(repeat' split)<;>first|exact h1|exact yt _ _ (by decide) fM fM (by first|exact Nat.zero_le _|decide)
  ·unfold outside
   split
   ·exact wL (EG f n a)
   ·exact wL (mark_g f n hf hn st r a hr)
theorem yU(hf:∀i,0≤f i∧f i≤255)(hn:n≤2000):∀m a k,∀t∈(scanR f n m a k).1,St t
 |0,a,k,t,h=>by simp[scanR]at h
 |m+1,a,k,t,h=>by
  have hg:=token_g f n hf hn a k
  rw[scanR]at h
  split at h
  ·cases e:token f n a k with
   |no c p=>rw[e]at h;simp at h
   |ok q a'=>
    rw[e]at h hg
    dsimp only at h
    rcases List.mem_cons.1 h with rfl|h
    ·exact hg
    ·exact yU hf hn m a' q.2 t h
  ·simp at h
theorem rO:∀m a k,(scanR f n m a k).1.length≤m
 |0,a,k=>by simp[scanR]
 |m+1,a,k=>by
  rw[scanR]
  split
  ·cases e:token f n a k with
   |no c p=>simp
   |ok q a'=>have:=rO m a' q.2;simp;omega
  ·simp
end
theorem fQ(f:Nat→Int)(n:Nat)(hf:∀i,0≤f i∧f i≤255):(∀t∈(bD f n).1,tV t∧Jm t)∧(bD f n).1.length≤10000:=by
 unfold bD
 split
 ·rename_i hn
  exact⟨fun t ht=>(yU f n hf hn n 0 0 t ht).ti,by have:=rO f n n 0 0;omega⟩
 ·exact⟨fun t ht=>(by cases ht),by simp⟩
end Go.Proofs.YtgbkolonhddolaaGreatDoor.prs
end
