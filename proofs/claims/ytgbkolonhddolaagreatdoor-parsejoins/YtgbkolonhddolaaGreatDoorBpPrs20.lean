import Derived.Test.YtgbkolonhddolaaGreatDoorBpPrs19
import Derived.Test.YtgbkolonhddolaaGreatDoorBpPrs16
import Derived.Test.YtgbkolonhddolaaGreatDoorBpTre13
import Derived.Test.YtgbkolonhddolaaGreatDoorBpTok7
set_option linter.unusedSimpArgs false
set_option linter.unusedVariables false
set_option maxRecDepth 100000
set_option maxHeartbeats 4000000
theorem Go.Proofs.YtgbkolonhddolaaGreatDoor.kS{p:Prop}(h:p):Go.RowKit.Hid p:=h
namespace Go.Proofs.YtgbkolonhddolaaGreatDoor.prs
open Go.RowKit nod tok
open lin(BA)
open tre(Pw grpN og)
theorem Cr{yx Ay:Option Addr}{N1 N2 jr cap2:Nat}{f1 f2:Nat→Int}{w:World}(hB1:utf.oM w yx N1 f1)(hB2:utf.oM w Ay N2 f2)(E:PEnv w)(hw:Pw w)(hf1:∀i,0≤f1 i∧f1 i≤255)(hf2:∀i,0≤f2 i∧f2 i≤255)
  (hc1:N1≤jr)(hcm1:jr≤9223372036854775807)(hnil1:yx=none→N1=0)(hc2:N2≤cap2)(hcm2:cap2≤9223372036854775807)(Ev:Ay=none→N2=0):
  Calls Tryz.prog 3 #[.slice yx N1 jr,.slice Ay N2 cap2] w fun e w'=>e=.returned (.bool true)∧Below w.heap.size w w':=by
 obtain⟨n1,hn1⟩:∃n,min N1 400=n:=⟨_,rfl⟩
 obtain⟨n2,hn2⟩:∃n,min N2 400=n:=⟨_,rfl⟩
 have a1:n1≤400:=by omega
 have a2:n2≤400:=by omega
 have a3:n1≤jr:=by omega
 have a4:n2≤cap2:=by omega
 have e1:min (N1:Int) 400=(n1:Int):=by omega
 have e2:(if(N1:Int)<400 then(N1:Int)else 400)=(n1:Int):=by split<;>omega
 have e3:min (N2:Int) 400=(n2:Int):=by omega
 have e4:(if(N2:Int)<400 then(N2:Int)else 400)=(n2:Int):=by split<;>omega
 have HN1:Hid (yx=none→n1=0):=fun e=>by have:=hnil1 e;omega
 have HN2:Hid (Ay=none→n2=0):=fun e=>by have:=Ev e;omega
 have HI1:Hid (utf.oM w yx n1 f1):=hB1.imp (fun h=>by omega) fun⟨b,off,e,h⟩=>⟨b,off,e,fun i hi=>h i (by omega)⟩
 have HI2:Hid (utf.oM w Ay n2 f2):=hB2.imp (fun h=>by omega) fun⟨b,off,e,h⟩=>⟨b,off,e,fun i hi=>h i (by omega)⟩
 have HE:Hid (PEnv w):=E
 have IJ:Hid (Pw w):=hw
 have Mm:Hid (∀W,Below w.heap.size w W→Calls Tryz.prog 5 #[.slice yx n1 jr] W (Pd W (ax bU f1 n1))):=fun W h=>parse_any (HI1.out.below h) (HE.out.below h) (IJ.out.on h) hf1 a3 hcm1 (by omega) (fQ f1 n1 hf1).1 (fQ f1 n1 hf1).2
 have uN:Hid (∀W,Below w.heap.size w W→Calls Tryz.prog 5 #[.slice Ay n2 cap2] W (Pd W (ax bU f2 n2))):=fun W h=>parse_any (HI2.out.below h) (HE.out.below h) (IJ.out.on h) hf2 a4 hcm2 (by omega) (fQ f2 n2 hf2).1 (fQ f2 n2 hf2).2
 have HC3:Hid (∀W v,Below w.heap.size w W→∀B,IV W B v (n1+1+n2) (jnF f1 n1 f2)→Calls Tryz.prog 5 #[v] W (Pd W (ax bU (jnF f1 n1 f2) (n1+1+n2)))):=fun W v h B hv=>zi hv (HE.out.below h) (IJ.out.on h) (mK (mK hf1 fun _=>by decide) hf2) (by omega)
 have CA:Hid (∀W,Below w.heap.size w W→Calls Tryz.prog 7 #[] W fun e w'=>e=.returned (.bool true)∧Below W.heap.size W w'):=fun W h=>wD W (HE.out.below h) (IJ.out.on h)
 have hp:=zD (f1:=f1) (f2:=f2) (n1:=n1) (n2:=n2)
 have hg:=vE (f:=f2) (n:=n2)
 have hl1:=Az (bN:=bU) (n:=n1) hf1
 have hl2:=Az (bN:=bU) (n:=n2) hf2
 obtain⟨R1,hR1⟩:∃R,ax bU f1 n1=R:=⟨_,rfl⟩
 obtain⟨R2,hR2⟩:∃R,ax bU f2 n2=R:=⟨_,rfl⟩
 obtain⟨R3,hR3⟩:∃R,ax bU (jnF f1 n1 f2) (n1+1+n2)=R:=⟨_,rfl⟩
 rw[hR1]at Mm hl1
 rw[hR2]at uN hg hl2
 rw[hR3]at HC3
 rw[hR1,hR2,hR3]at hp
 obtain⟨t1,c1,p1⟩:=R1
 obtain⟨t2,c2,p2⟩:=R2
 obtain⟨t3,c3,p3⟩:=R3
 dsimp only at hp hg hl1 hl2
 have uL:=kS hp
 have HGR:Hid (c2=0→grpN t2≤20):=hg
 have yC:Hid (c1=0→c2=0→0<(dE t1).length∧(dE t1).length≤10001∧(dE t2).length≤10001):=fun a b=>⟨(hl1 a).1,(hl1 a).2,(hl2 b).2⟩
 clear hp hg hl1 hl2 hR1 hR2 hR3 hB1 hB2 E hw hn1 hn2 hnil1 Ev
 go_enter Tryz.func3,Tryz.ntmps3
 go_upto_region 1 with fail
 refine lin.UH.begin (S:=fun _=>True) (by kernel_rfl) trivial (fun hHeld=>?_)
 iterate 12
  refine lin.UH.take (v:=?_) rfl (by kernel_rfl) (fun _ _ _ h=>h) (by rfl) ?_ (by assumption) ?_
  rotate_left
  ·(intro w' hSw;(try dsimp only at hSw);go_simp;try with_reducible rfl)
  try simp only[Act.put,lin.sm]
 refine lin.UH.fin (by kernel_rfl) ?_
 clear hHeld
 have B0:Below w.heap.size w w.drew:=(Below.refl _ w).drew
 have CP:=Mm.out _ B0
 go_upto_region 2 with fail
 go_wp2_with fail
 refine CP.mono ?_
 rintro e w2⟨⟨uk,um,ua,ub,ug,un,yo,yj,yl⟩,rfl,hfz,hb2⟩
 clear CP Mm
 dsimp only at hfz
 dsimp only[a8]
 obtain⟨W3,hW3⟩:∃W3,(w2.alloc (.cells #[.int .i64 uk,.int .i64 um,.int .i64 ua,.int .i64 ub,.bool ug,.string un,.slice none 0 0,.slice yo yj yl] 26)).alloc (.cells #[.int .i64 c1,.int .i64 (p1:Int)] 29)=W3:=⟨_,rfl⟩
 have B23:Below w2.heap.size w2 W3:=by rw[←hW3];exact bP w2 _ _
 have HT3:=kS ((hfz.nv.keep B23).wide B23.size)
 have Iw:Hid (Bk W3 w2.heap.size #[.int .i64 uk,.int .i64 um,.int .i64 ua,.int .i64 ub,.bool ug,.string un,.slice none 0 0,.slice yo yj yl] 26):=by unfold Hid;rw[←hW3];exact(Bk.new w2 _ _).past _
 have HF3:Hid (Bk W3 (w2.heap.size+1) #[.int .i64 c1,.int .i64 (p1:Int)] 29):=by unfold Hid;rw[←hW3];exact bk2
 have Iz:Hid (Below w.heap.size w W3):=B0.trans ((ae hb2 B0.size).trans (ae B23 (Nat.le_trans B0.size hb2.size)))
 have HW3:=kS hW3
 clear hW3 B23 hfz hb2 B0
 go_upto_region 3 with fail
 rw[HW3.out]
 clear HW3
 have CP:=uN.out _ Iz.out
 go_wp2_with fail
 refine CP.mono ?_
 rintro e w4⟨⟨vk,vm,va,vb,vg,vn,Bj,Bh,Bi⟩,rfl,hfz,hb4⟩
 clear CP uN
 dsimp only at hfz
 dsimp only[a8]
 obtain⟨W5,IE⟩:∃W5,(w4.alloc (.cells #[.int .i64 vk,.int .i64 vm,.int .i64 va,.int .i64 vb,.bool vg,.string vn,.slice none 0 0,.slice Bj Bh Bi] 26)).alloc (.cells #[.int .i64 c2,.int .i64 (p2:Int)] 29)=W5:=⟨_,rfl⟩
 have B45:Below w4.heap.size w4 W5:=by rw[←IE];exact bP w4 _ _
 have B35:Below W3.heap.size W3 W5:=hb4.trans (ae B45 hb4.size)
 have uh:=kS ((HT3.out.keep B35).wide B35.size)
 have HV5:=kS ((hfz.nv.keep B45).wide B45.size)
 have HK5:=kS (Iw.out.on B35)
 have HF5:=kS (HF3.out.on B35)
 have HL5:Hid (Bk W5 w4.heap.size #[.int .i64 vk,.int .i64 vm,.int .i64 va,.int .i64 vb,.bool vg,.string vn,.slice none 0 0,.slice Bj Bh Bi] 26):=by unfold Hid;rw[←IE];exact(Bk.new w4 _ _).past _
 have HG5:Hid (Bk W5 (w4.heap.size+1) #[.int .i64 c2,.int .i64 (p2:Int)] 29):=by unfold Hid;rw[←IE];exact bk2
 have DK:Hid (Below w.heap.size w W5):=Iz.out.trans (ae B35 Iz.out.size)
 have HW5:=kS IE
 clear IE B45 B35 hfz hb4 HT3 Iw HF3 Iz
 go_upto_region 4 with fail
 rw[HW5.out]
 clear HW5
 have x0:=HF5.out.cell 0 rfl
 have y0:=HG5.out.cell 0 rfl
 by_cases h1:c1=0
 rotate_left
 ·have z1:(c1==0)=false:=by simp[h1]
  go_wp2_with(go_at_call 7;refine(CA.out _ DK.out).mono ?_;rintro e wz⟨rfl,d⟩;have L9:Hid (Below w.heap.size w wz):=DK.out.trans (ae d DK.out.size);clear d)
  go_ret
  exact⟨rfl,L9.out⟩
 subst h1
 by_cases h2:c2=0
 rotate_left
 ·have z1:(c2==0)=false:=by simp[h2]
  go_wp2_with(go_at_call 7;refine(CA.out _ DK.out).mono ?_;rintro e wz⟨rfl,d⟩;have L9:Hid (Below w.heap.size w wz):=DK.out.trans (ae d DK.out.size);clear d)
  go_ret
  exact⟨rfl,L9.out⟩
 subst h2
 have HLN2:Hid ((dE t1).length≤10001∧(dE t2).length≤10001):=(yC.out rfl rfl).2
 have HLP:Hid (0<(dE t1).length):=(yC.out rfl rfl).1
 clear yC
 have CG:=qx t2.sz t2 (.agg #[.int .i64 vk,.int .i64 vm,.int .i64 va,.int .i64 vb,.bool vg,.string vn,.slice none 0 0,.slice Bj Bh Bi]) W5 (Nat.le_refl _) (by have:=HGR.out rfl;omega) HV5.out
 obtain⟨G,hG⟩:∃G,grpN t2=G:=⟨_,rfl⟩
 have HG:Hid (grpN t2=G):=hG
 have hG0:0≤G:=by rw[←hG];exact oC t2
 rw[hG]at CG
 clear hG HGR
 obtain⟨m0,m1,m2,m3,m4,m5,m6,m7⟩:=cl8 HL5.out
 by_cases h2:G=0
 rotate_left
 ·have z2:decide (0<G)=true:=by simp;omega
  have z3:0<G:=by omega
  go_wp2_with(first
   |(go_at_call 6;refine CG.mono ?_;rintro e w6⟨rfl,d⟩;have uP:Hid (Below w.heap.size w w6):=DK.out.trans (ae d DK.out.size);clear d CG)
   |(go_at_call 7;refine(CA.out _ uP.out).mono ?_;rintro e wz⟨rfl,d⟩;have L9:Hid (Below w.heap.size w wz):=uP.out.trans (ae d uP.out.size);clear d))
  go_ret
  exact⟨rfl,L9.out⟩
 subst h2
 have HPJ:Hid (((t3,c3,p3)=(nd 7 0 0 0 false [] (dE t1++dE t2),0,0))∨c3=4):=uL.out rfl rfl HG.out
 clear uL HG hG0
 go_wp2_with(go_at_call 6;refine CG.mono ?_;rintro e w6⟨rfl,d⟩;have HD6:Hid (Below W5.heap.size W5 w6):=d;clear d CG)
 have DT:Below w.heap.size w w6:=DK.out.trans (ae HD6.out DK.out.size)
 refine(Lm (HI1.out.below DT) HN1.out (by omega)).mono ?_
 rintro e w7⟨v7,rfl,hv7,lI⟩
 have B07:=DT.trans (ae lI DT.size)
 have B78:Below w7.heap.size w7 (w7.alloc (.cells #[.int .u8 124] 5)):=(Below.refl _ w7).alloc (Nat.le_refl _) _
 have I8:utf.oM (w7.alloc (.cells #[.int .u8 124] 5)) (some ⟨w7.heap.size,0,none⟩) 1 fun _=>124:=.inr ⟨_,0,rfl,fun i hi=>by
  obtain rfl:i=0:=by omega
  exact(Bk.new w7 #[.int .u8 124] 5).cell 0 rfl⟩
 have hv8:ByR0 (w7.alloc (.cells #[.int .u8 124] 5)) w6.heap.size v7 n1 f1:=hv7.imp id fun h=>h.below B78
 obtain⟨v9,w9,R9,BR9,hb9⟩:=app_br0 (c:=1) 22 hv8 I8 (fun e=>by cases e) (Nat.le_trans lI.size B78.size) (by omega) (by omega)
 have B69:Below w6.heap.size w6 w9:=(lI.trans (ae B78 lI.size)).trans hb9
 have B09:=DT.trans (ae B69 DT.size)
 obtain⟨v10,qG,R10,BR10,uE⟩:=xQ (c:=cap2) 22 BR9 (HI2.out.below B09) HN2.out B69.size (by omega)
 have B6A:Below w6.heap.size w6 qG:=B69.trans uE
 have CP:=HC3.out qG v10 (DT.trans (ae B6A DT.size)) _ BR10
 have HD10:Hid (Below W5.heap.size W5 qG):=HD6.out.trans (ae B6A HD6.out.size)
 have uR:Hid (Below w.heap.size w qG):=DT.trans (ae B6A DT.size)
 clear DT hv7 lI B07 B78 I8 hv8 BR9 hb9 B69 B09 BR10 uE B6A HC3 HD6 x0 y0 m0 m1 m2 m3 m4 m5 m6 m7
 go_wp2_with(first
  |(at_builtin;refine lX rfl _ _ rfl rfl rfl R9 ?_)
  |(at_builtin;refine lX rfl _ _ rfl rfl rfl R10 ?_))
 refine CP.mono ?_
 rintro e uu⟨⟨zk,zm,za,zb,zg,zn,zka,zkn,zkc⟩,rfl,hfz,GZ⟩
 clear CP R9 R10
 dsimp only at hfz
 dsimp only[a8]
 obtain⟨kX,uF⟩:∃kX,(uu.alloc (.cells #[.int .i64 zk,.int .i64 zm,.int .i64 za,.int .i64 zb,.bool zg,.string zn,.slice none 0 0,.slice zka zkn zkc] 26)).alloc (.cells #[.int .i64 c3,.int .i64 (p3:Int)] 29)=kX:=⟨_,rfl⟩
 have qF:Below uu.heap.size uu kX:=by rw[←uF];exact bP uu _ _
 have Ms:Below qG.heap.size qG kX:=GZ.trans (ae qF GZ.size)
 have DR:Below W5.heap.size W5 kX:=HD10.out.trans (ae Ms HD10.out.size)
 obtain⟨B,hBB⟩:∃B,kX.heap.size=B:=⟨_,rfl⟩
 have HB:Hid (kX.heap.size=B):=hBB
 have qi:Hid (NV B kX t1 (.agg #[.int .i64 uk,.int .i64 um,.int .i64 ua,.int .i64 ub,.bool ug,.string un,.slice none 0 0,.slice yo yj yl])):=(uh.out.keep DR).wide (hBB▸DR.size)
 have HV12:Hid (NV B kX t2 (.agg #[.int .i64 vk,.int .i64 vm,.int .i64 va,.int .i64 vb,.bool vg,.string vn,.slice none 0 0,.slice Bj Bh Bi])):=(HV5.out.keep DR).wide (hBB▸DR.size)
 have HQ12:Hid (NV B kX t3 (.agg #[.int .i64 zk,.int .i64 zm,.int .i64 za,.int .i64 zb,.bool zg,.string zn,.slice none 0 0,.slice zka zkn zkc])):=(hfz.nv.keep qF).wide (hBB▸qF.size)
 have HK12:=kS (HK5.out.on DR)
 have HL12:=kS (HL5.out.on DR)
 have HM12:Hid (Bk kX uu.heap.size #[.int .i64 zk,.int .i64 zm,.int .i64 za,.int .i64 zb,.bool zg,.string zn,.slice none 0 0,.slice zka zkn zkc] 26):=by unfold Hid;rw[←uF];exact(Bk.new uu _ _).past _
 have HF12:Hid (Bk kX (uu.heap.size+1) #[.int .i64 c3,.int .i64 (p3:Int)] 29):=by unfold Hid;rw[←uF];exact bk2
 have uQ:Hid (Below w.heap.size w kX):=uR.out.trans (ae Ms uR.out.size)
 have Mc:=kS uF
 clear uF qF Ms DR hfz GZ uh HV5 HK5 HF5 HL5 HG5 DK HD10 uR hBB
 go_upto_region 7 with fail
 rw[Mc.out]
 clear Mc
 have x0:=HF12.out.cell 0 rfl
 rcases HPJ.out with hE|rfl
 rotate_left
 ·clear HPJ
  go_wp2_with(go_at_call 7;refine(CA.out _ uQ.out).mono ?_;rintro e wz⟨rfl,d⟩;have L9:Hid (Below w.heap.size w wz):=uQ.out.trans (ae d uQ.out.size);clear d)
  go_ret
  exact⟨rfl,L9.out⟩
 clear HPJ
 simp only[Prod.mk.injEq]at hE
 obtain⟨hE,rfl,rfl⟩:=hE
 have HEQ:=kS hE
 clear hE
 have HA1:Hid (∀W,Below B kX W→B≤W.heap.size→Calls Tryz.prog 9 #[.agg #[.int .i64 uk,.int .i64 um,.int .i64 ua,.int .i64 ub,.bool ug,.string un,.slice none 0 0,.slice yo yj yl]] W fun e w'=>∃ao c cs,e=.returned (.slice ao (dE t1).length c)∧kY B w' ao cs (dE t1)∧Below W.heap.size W w'):=fun W h hz=>(AA hz (qi.out.keep h)).mono fun e w'⟨ao,c,cs,h0,h1,h2,h3,h4⟩=>⟨ao,c,cs,h0,⟨h1,h2,h3⟩,h4⟩
 have HA2:Hid (∀W,Below B kX W→B≤W.heap.size→Calls Tryz.prog 9 #[.agg #[.int .i64 vk,.int .i64 vm,.int .i64 va,.int .i64 vb,.bool vg,.string vn,.slice none 0 0,.slice Bj Bh Bi]] W fun e w'=>∃ao c cs,e=.returned (.slice ao (dE t2).length c)∧kY B w' ao cs (dE t2)∧Below W.heap.size W w'):=fun W h hz=>(AA hz (HV12.out.keep h)).mono fun e w'⟨ao,c,cs,h0,h1,h2,h3,h4⟩=>⟨ao,c,cs,h0,⟨h1,h2,h3⟩,h4⟩
 obtain⟨L1,hL1⟩:∃L,dE t1=L:=⟨_,rfl⟩
 obtain⟨L2,hL2⟩:∃L,dE t2=L:=⟨_,rfl⟩
 rw[hL1,hL2]at HEQ HLN2
 rw[hL1]at HA1 HLP
 rw[hL2]at HA2
 clear hL1 hL2
 have AR:Hid (∀w',Below B kX w'→(w'.cell? ⟨w2.heap.size,0,none⟩=some (.int .i64 uk)∧w'.cell? ⟨w2.heap.size,1,none⟩=some (.int .i64 um)∧w'.cell? ⟨w2.heap.size,2,none⟩=some (.int .i64 ua)∧w'.cell? ⟨w2.heap.size,3,none⟩=some (.int .i64 ub)∧w'.cell? ⟨w2.heap.size,4,none⟩=some (.bool ug)∧w'.cell? ⟨w2.heap.size,5,none⟩=some (.string un)∧w'.cell? ⟨w2.heap.size,6,none⟩=some (.slice none 0 0)∧w'.cell? ⟨w2.heap.size,7,none⟩=some (.slice yo yj yl))∧(w'.cell? ⟨w4.heap.size,0,none⟩=some (.int .i64 vk)∧w'.cell? ⟨w4.heap.size,1,none⟩=some (.int .i64 vm)∧w'.cell? ⟨w4.heap.size,2,none⟩=some (.int .i64 va)∧w'.cell? ⟨w4.heap.size,3,none⟩=some (.int .i64 vb)∧w'.cell? ⟨w4.heap.size,4,none⟩=some (.bool vg)∧w'.cell? ⟨w4.heap.size,5,none⟩=some (.string vn)∧w'.cell? ⟨w4.heap.size,6,none⟩=some (.slice none 0 0)∧w'.cell? ⟨w4.heap.size,7,none⟩=some (.slice Bj Bh Bi))):=fun w' d=>⟨cl8 (HK12.out.on (HB.out.symm▸d)),cl8 (HL12.out.on (HB.out.symm▸d))⟩
 go_upto_region 10 with fail
 clear x0
 have HZ12:Hid (B≤kX.drew.heap.size):=Nat.le_of_eq HB.out.symm
 have xZ:Hid (Below B kX kX.drew):=(Below.refl _ kX).drew
 refine wp_region_noPanic (wp_region_held_drew (S:=fun w'=>(w'.cell? ⟨w2.heap.size,0,none⟩=some (.int .i64 uk)∧w'.cell? ⟨w2.heap.size,1,none⟩=some (.int .i64 um)∧w'.cell? ⟨w2.heap.size,2,none⟩=some (.int .i64 ua)∧w'.cell? ⟨w2.heap.size,3,none⟩=some (.int .i64 ub)∧w'.cell? ⟨w2.heap.size,4,none⟩=some (.bool ug)∧w'.cell? ⟨w2.heap.size,5,none⟩=some (.string un)∧w'.cell? ⟨w2.heap.size,6,none⟩=some (.slice none 0 0)∧w'.cell? ⟨w2.heap.size,7,none⟩=some (.slice yo yj yl))∧(w'.cell? ⟨w4.heap.size,0,none⟩=some (.int .i64 vk)∧w'.cell? ⟨w4.heap.size,1,none⟩=some (.int .i64 vm)∧w'.cell? ⟨w4.heap.size,2,none⟩=some (.int .i64 va)∧w'.cell? ⟨w4.heap.size,3,none⟩=some (.int .i64 vb)∧w'.cell? ⟨w4.heap.size,4,none⟩=some (.bool vg)∧w'.cell? ⟨w4.heap.size,5,none⟩=some (.string vn)∧w'.cell? ⟨w4.heap.size,6,none⟩=some (.slice none 0 0)∧w'.cell? ⟨w4.heap.size,7,none⟩=some (.slice Bj Bh Bi))) (by kernel_rfl) (AR.out _ xZ.out) fun hHeld=>?_)
 obtain⟨Wc,hWc⟩:∃Wc,kX.drew=Wc:=⟨_,rfl⟩
 rw[hWc]at hHeld xZ HZ12⊢
 clear hWc
 have jd:Hid (Below B kX Wc):=xZ.out
 have jc:Hid (B≤Wc.heap.size):=HZ12.out
 clear xZ HZ12
 refine lin.eT 1 (v:=?_) rfl (by kernel_rfl) (fun _ _ _ h=>h) (by rfl) ?_ (by assumption) ?_
 rotate_left
 ·(intro w' hSw;(try dsimp only at hSw);go_simp;try with_reducible rfl)
 try simp only[Act.put,lin.sm]
 refine lin.eT 2 (v:=?_) rfl (by kernel_rfl) (fun _ _ _ h=>h) (by rfl) ?_ (by assumption) ?_
 rotate_left
 ·(intro w' hSw;(try dsimp only at hSw);go_simp;try with_reducible rfl)
 try simp only[Act.put,lin.sm]
 refine lin.eT 5 (v:=?_) rfl (by kernel_rfl) (fun _ _ _ h=>h) (by rfl) ?_ (by assumption) ?_
 rotate_left
 ·(intro w' hSw;(try dsimp only at hSw);go_simp;try with_reducible rfl)
 try simp only[Act.put,lin.sm]
 refine lin.eT 6 (v:=?_) rfl (by kernel_rfl) (fun _ _ _ h=>h) (by rfl) ?_ (by assumption) ?_
 rotate_left
 ·(intro w' hSw;(try dsimp only at hSw);go_simp;try with_reducible rfl)
 try simp only[Act.put,lin.sm]
 iterate 6
  all_goals
   first
    |(have q:=H7;clear q;have q:=HT;clear q;refine wpAnyH_ready (rs:=[8]) (by kernel_rfl) (by simp) ?_;refine(AllReadyH.cons rfl (fun K hK8=>?_) AllReadyH.nil))
    |(have q:=H7;clear q;refine wpAnyH_ready (rs:=[8,10]) (by kernel_rfl) (by simp) ?_;refine(AllReadyH.cons rfl (fun K hK8=>?_) (AllReadyH.cons rfl (fun K xz=>?_) AllReadyH.nil)))
    |(have q:=H4;clear q;have q:=HT;clear q;refine wpAnyH_ready (rs:=[7]) (by kernel_rfl) (by simp) ?_;refine(AllReadyH.cons rfl (fun K hK7=>?_) AllReadyH.nil))
    |(have q:=H4;clear q;refine wpAnyH_ready (rs:=[7,10]) (by kernel_rfl) (by simp) ?_;refine(AllReadyH.cons rfl (fun K hK7=>?_) (AllReadyH.cons rfl (fun K xz=>?_) AllReadyH.nil)))
    |(have q:=H8;clear q;refine wpAnyH_ready (rs:=[10]) (by kernel_rfl) (by simp) ?_;refine(AllReadyH.cons rfl (fun K xz=>?_) AllReadyH.nil))
    |(have q:=H0a;clear q;have q:=H3;clear q;have q:=HT;clear q;refine wpAnyH_ready (rs:=[4]) (by kernel_rfl) (by simp) ?_;refine(AllReadyH.cons rfl (fun K hK4=>?_) AllReadyH.nil))
    |(have q:=H0a;clear q;have q:=H3;clear q;refine wpAnyH_ready (rs:=[4,10]) (by kernel_rfl) (by simp) ?_;refine(AllReadyH.cons rfl (fun K hK4=>?_) (AllReadyH.cons rfl (fun K xz=>?_) AllReadyH.nil)))
    |(have q:=H0a;clear q;have q:=HT;clear q;refine wpAnyH_ready (rs:=[3]) (by kernel_rfl) (by simp) ?_;refine(AllReadyH.cons rfl (fun K hK3=>?_) AllReadyH.nil))
    |(have q:=H3;clear q;have q:=HT;clear q;refine wpAnyH_ready (rs:=[0]) (by kernel_rfl) (by simp) ?_;refine(AllReadyH.cons rfl (fun K hK0=>?_) AllReadyH.nil))
    |(have q:=HT;clear q;refine wpAnyH_ready (rs:=[0,3]) (by kernel_rfl) (by simp) ?_;refine(AllReadyH.cons rfl (fun K hK0=>?_) (AllReadyH.cons rfl (fun K hK3=>?_) AllReadyH.nil)))
    |(have q:=H0a;clear q;refine wpAnyH_ready (rs:=[3,10]) (by kernel_rfl) (by simp) ?_;refine(AllReadyH.cons rfl (fun K hK3=>?_) (AllReadyH.cons rfl (fun K xz=>?_) AllReadyH.nil)))
    |(have q:=H3;clear q;refine wpAnyH_ready (rs:=[0,10]) (by kernel_rfl) (by simp) ?_;refine(AllReadyH.cons rfl (fun K hK0=>?_) (AllReadyH.cons rfl (fun K xz=>?_) AllReadyH.nil)))
    |(refine wpAnyH_ready (rs:=[0,3,10]) (by kernel_rfl) (by simp) ?_;refine(AllReadyH.cons rfl (fun K hK0=>?_) (AllReadyH.cons rfl (fun K hK3=>?_) (AllReadyH.cons rfl (fun K xz=>?_) AllReadyH.nil))))
  all_goals
   first
    |(have q:=hK0;clear q;go_simp;obtain⟨Wn,hWn⟩:∃Wn,Wc.alloc (.cells #[] 26)=Wn:=⟨_,rfl⟩;have d:Below Wc.heap.size Wc Wn:=(by rw[←hWn];exact(Below.refl _ _).alloc (Nat.le_refl _) _);rw[hWn];obtain⟨p0,hp0⟩:∃p,Wc.heap.size=p:=⟨_,rfl⟩;rw[hp0];clear hp0 hWn;have H0a:Hid (p0=p0):=rfl;(try(replace HT:=kS (HT.out.on d)));(try(replace H3:Hid (kY B Wn x1 z1 L1):=H3.out.below d jc.out));(try(replace H7:Hid (kY B Wn x2 z2 L2):=H7.out.below d jc.out));(try(replace H4:Hid (gz B Wn vr L1):=H4.out.below d jc.out));(try(replace H8:Hid (gz B Wn vs (L1++L2)):=H8.out.below d jc.out));replace jd:Hid (Below B kX Wn):=jd.out.trans (ae d jc.out);replace jc:Hid (B≤Wn.heap.size):=Nat.le_trans jc.out d.size;refine hK0.out _ _ (AR.out _ jd.out) (fun hHeld=>?_);clear hK0 K d;rename World=>Wc;(try simp only[Act.put,lin.sm]))
    |(have q:=hK3;clear q;have CC:=HA1.out _ jd.out jc.out;go_simp;refine CC.mono ?_;rintro e Wn⟨x1,y1,z1,rfl,h1,d⟩;clear CC;(try(replace HT:=kS (HT.out.on d)));(try(replace H3:Hid (kY B Wn x1 z1 L1):=H3.out.below d jc.out));(try(replace H7:Hid (kY B Wn x2 z2 L2):=H7.out.below d jc.out));(try(replace H4:Hid (gz B Wn vr L1):=H4.out.below d jc.out));(try(replace H8:Hid (gz B Wn vs (L1++L2)):=H8.out.below d jc.out));replace jd:Hid (Below B kX Wn):=jd.out.trans (ae d jc.out);replace jc:Hid (B≤Wn.heap.size):=Nat.le_trans jc.out d.size;have H3:Hid (kY B Wn x1 z1 L1):=h1;clear h1;refine hK3.out _ _ (AR.out _ jd.out) (fun hHeld=>?_);clear hK3 K d;rename World=>Wc;(try simp only[Act.put,lin.sm]))
    |(have q:=hK4;clear q;obtain⟨vr,Wn,R,hr,hv,d⟩:=Il (c:=y1) 24 p0 H3.out jc.out (by have:=HLN2.out;omega) HLP.out;refine DY rfl _ _ rfl rfl rfl R ?_;clear R H0a H3;(try(have HPV:Hid (vr.ownBlock≠some p12):=(by rw[hv];intro e;have:=HT.out.lt;have:=Option.some.inj e;omega)));(try(replace HT:=kS (HT.out.on d)));(try(replace H3:Hid (kY B Wn x1 z1 L1):=H3.out.below d jc.out));(try(replace H7:Hid (kY B Wn x2 z2 L2):=H7.out.below d jc.out));(try(replace H4:Hid (gz B Wn vr L1):=H4.out.below d jc.out));(try(replace H8:Hid (gz B Wn vs (L1++L2)):=H8.out.below d jc.out));replace jd:Hid (Below B kX Wn):=jd.out.trans (ae d jc.out);replace jc:Hid (B≤Wn.heap.size):=Nat.le_trans jc.out d.size;have H4:Hid (gz B Wn vr L1):=hr;clear hr hv;refine hK4.out _ _ (AR.out _ jd.out) (fun hHeld=>?_);clear hK4 K d;rename World=>Wc;(try simp only[Act.put,lin.sm]))
    |(have q:=hK7;clear q;have CC:=HA2.out _ jd.out jc.out;go_simp;refine CC.mono ?_;rintro e Wn⟨x2,y2,z2,rfl,h1,d⟩;clear CC;(try(replace HT:=kS (HT.out.on d)));(try(replace H3:Hid (kY B Wn x1 z1 L1):=H3.out.below d jc.out));(try(replace H7:Hid (kY B Wn x2 z2 L2):=H7.out.below d jc.out));(try(replace H4:Hid (gz B Wn vr L1):=H4.out.below d jc.out));(try(replace H8:Hid (gz B Wn vs (L1++L2)):=H8.out.below d jc.out));replace jd:Hid (Below B kX Wn):=jd.out.trans (ae d jc.out);replace jc:Hid (B≤Wn.heap.size):=Nat.le_trans jc.out d.size;have H7:Hid (kY B Wn x2 z2 L2):=h1;clear h1;refine hK7.out _ _ (AR.out _ jd.out) (fun hHeld=>?_);clear hK7 K d;rename World=>Wc;(try simp only[Act.put,lin.sm]))
    |(have q:=hK8;clear q;obtain⟨vs,Wn,R,hr,d,k,ho⟩:=app_nr (c:=y2) 24 H4.out H7.out.1 H7.out.2.1 H7.out.2.2 jc.out (by have:=HLN2.out;omega);refine DY rfl _ _ rfl rfl rfl R ?_;clear R H7;(try(have AV:Hid (vs.ownBlock≠some p12):=(by rcases ho with e|e;(rw[e];exact HPV.out);(rw[e];intro e;have:=HT.out.lt;have:=Option.some.inj e;omega))));(try(replace HT:Hid (Bk Wn p12 #[.int .i64 0,.int .i64 0,.int .i64 0,.int .i64 0,.bool false,.string ⟨#[]⟩,.slice none 0 0,.slice none 0 0] 26):=(k.block p12 HT.out.lt fun e=>HPV.out e.symm).trans HT.out));(try(clear HPV));replace jd:Hid (Below B kX Wn):=jd.out.trans d;replace jc:Hid (B≤Wn.heap.size):=Nat.le_trans jc.out d.size;have H8:Hid (gz B Wn vs (L1++L2)):=hr;obtain⟨gr,cr,hvs⟩:=hr.is;clear hr k ho H4;refine hK8.out _ _ (AR.out _ jd.out) (fun hHeld=>?_);clear hK8 K d;rename World=>Wc;(try simp only[Act.put,lin.sm]);refine lin.eT 9 (v:=?_) rfl (by kernel_rfl) (fun _ _ _ h=>h) (by rfl) ?_ (by assumption) ?_;rotate_left;(focus(intro w' hSw;(try dsimp only at hSw);go_simp;try with_reducible rfl));(try simp only[Act.put,lin.sm]))
    |(have q:=xz;clear q;go_simp;obtain⟨Wn,hWn⟩:∃Wn,Wc.alloc (.cells #[.int .i64 0,.int .i64 0,.int .i64 0,.int .i64 0,.bool false,.string ⟨#[]⟩,.slice none 0 0,.slice none 0 0] 26)=Wn:=⟨_,rfl⟩;have d:Below Wc.heap.size Wc Wn:=(by rw[←hWn];exact(Below.refl _ _).alloc (Nat.le_refl _) _);have k:Bk Wn Wc.heap.size #[.int .i64 0,.int .i64 0,.int .i64 0,.int .i64 0,.bool false,.string ⟨#[]⟩,.slice none 0 0,.slice none 0 0] 26:=(by rw[←hWn];exact Bk.new _ _ _);rw[hWn];(try(have HPV:Hid (vr.ownBlock≠some Wc.heap.size):=H4.out.lt));(try(have AV:Hid (vs.ownBlock≠some Wc.heap.size):=H8.out.lt));have hbp:B≤Wc.heap.size:=jc.out;obtain⟨p12,hp0⟩:∃p,Wc.heap.size=p:=⟨_,rfl⟩;rw[hp0]at k hbp⊢;(try(rw[hp0]at HPV));(try(rw[hp0]at AV));have HBP:Hid (B≤p12):=hbp;clear hp0 hWn hbp;(try(replace HT:=kS (HT.out.on d)));(try(replace H3:Hid (kY B Wn x1 z1 L1):=H3.out.below d jc.out));(try(replace H7:Hid (kY B Wn x2 z2 L2):=H7.out.below d jc.out));(try(replace H4:Hid (gz B Wn vr L1):=H4.out.below d jc.out));(try(replace H8:Hid (gz B Wn vs (L1++L2)):=H8.out.below d jc.out));replace jd:Hid (Below B kX Wn):=jd.out.trans (ae d jc.out);replace jc:Hid (B≤Wn.heap.size):=Nat.le_trans jc.out d.size;have HT:=kS k;clear k;refine xz.out _ _ (AR.out _ jd.out) (fun hHeld=>?_);clear xz K d;rename World=>Wc;(try simp only[Act.put,lin.sm]))
 all_goals
  subst hvs
  obtain⟨n12,hn12⟩:∃n,L1.length+L2.length=n:=⟨_,rfl⟩
  rw[List.length_append,hn12]at H8 AV
  rw[hn12]
  clear hn12 HLN2 HLP HA1 HA2 HK12 HL12 qi HV12
  obtain⟨Wf,hWf⟩:∃Wf,aC Wc p12 0 ⟨7,0,0,0,false,⟨#[]⟩,some ⟨gr,0,none⟩,n12,cr⟩=Wf:=⟨_,rfl⟩
  have kf:Bk Wf p12 #[.int .i64 7,.int .i64 0,.int .i64 0,.int .i64 0,.bool false,.string ⟨#[]⟩,.slice none 0 0,.slice (some ⟨gr,0,none⟩) n12 cr] 26:=by rw[←hWf];exact xP HT.out _
  have gf:Wc.grownBy Wf (some p12):=by rw[←hWf];exact bX _ _ _ _
  have hzf:B≤Wf.heap.size:=Nat.le_trans jc.out gf.size
  have rf:=(H8.out.grown gf AV.out HBP.out jc.out).node hzf
  have bf:Below B kX Wf:=by rw[←hWf];exact fI _ jd.out HBP.out
  have CS:=tre.rP t3.sz t3 (.agg #[.int .i64 zk,.int .i64 zm,.int .i64 za,.int .i64 zb,.bool zg,.string zn,.slice none 0 0,.slice zka zkn zkc]) _ Wf (Nat.le_refl _) ((HQ12.out.keep bf).wide hzf) (by rw[HEQ.out];exact rf)
  have H0f:Hid (Below w.heap.size w Wf):=uQ.out.trans (ae bf (HB.out▸uQ.out.size))
  obtain⟨z0,z1,z2,z3,z4,z5,z6,z7⟩:=cl8 (HM12.out.keep bf (HB.out▸HM12.out.lt))
  have HFf:Hid (Bk Wf (uu.heap.size+1) #[.int .i64 0,.int .i64 0] 29):=HF12.out.keep bf (HB.out▸HF12.out.lt)
  obtain⟨k0,k1,k2,k3,k4,k5,k6,k7⟩:=cl8 kf
  have HZf:Hid (_∧_∧_∧_∧_∧_∧_∧_):=⟨z0,z1,z2,z3,z4,z5,z6,z7⟩
  have HKf:Hid (_∧_∧_∧_∧_∧_∧_∧_):=⟨k0,k1,k2,k3,k4,k5,k6,k7⟩
  have HCS:Hid (Calls _ _ _ Wf _):=CS
  have HbF:Hid (Below B kX Wf):=bf
  obtain⟨x0,x1,x2,x3,x4,x5,x6,x7⟩:=cl8 HT.out
  have e0:=HT.out.frozen 0
  have e1:=HT.out.frozen 1
  have e2:=HT.out.frozen 2
  have e3:=HT.out.frozen 3
  have e4:=HT.out.frozen 4
  have e5:=HT.out.frozen 5
  have e6:=HT.out.frozen 6
  have e7:=HT.out.frozen 7
  unfold aC at hWf
  simp only[Nat.zero_add]at hWf
  have HWf:Hid (_=Wf):=hWf
  clear hWf kf gf hzf rf bf CS z0 z1 z2 z3 z4 z5 z6 z7 k0 k1 k2 k3 k4 k5 k6 k7 HT H8 AV HBP HQ12 HM12 HF12 HEQ jd jc
  refine wpAnyH_ready (rs:=[11]) (by kernel_rfl) (by simp) ?_
  refine AllReadyH.cons rfl (fun K hK=>?_) AllReadyH.nil
  go_simp
  rw[HWf.out]
  refine hK.out _ _ (AR.out _ HbF.out) (fun hHeld=>?_)
  clear hK K HWf x0 x1 x2 x3 x4 x5 x6 x7 e0 e1 e2 e3 e4 e5 e6 e7 hHeld
  try simp only[Act.put,lin.sm]
  refine wpAnyH_done (by kernel_rfl) ?_ _
  refine NoPanic.normal ?_
  obtain⟨z0,z1,z2,z3,z4,z5,z6,z7⟩:=HZf.out
  obtain⟨k0,k1,k2,k3,k4,k5,k6,k7⟩:=HKf.out
  have f0:=HFf.out.cell 0 rfl
  go_wp2_with(first
   |(go_at_call 10;refine HCS.out.mono ?_;rintro e wy⟨rfl,d⟩;have HYY:Hid (Below w.heap.size w wy):=H0f.out.trans (ae d H0f.out.size);clear d)
   |(go_at_call 7;refine(CA.out _ HYY.out).mono ?_;rintro e wz⟨rfl,d⟩;have L9:Hid (Below w.heap.size w wz):=HYY.out.trans (ae d HYY.out.size);clear d))
  go_ret
  exact⟨rfl,L9.out⟩
end Go.Proofs.YtgbkolonhddolaaGreatDoor.prs
namespace Go.Proofs.YtgbkolonhddolaaGreatDoor.prs
open Go.RowKit tok
open tre(Pw)
theorem joins_w(v:Value)(n:Nat)(f:Nat→Int)(v':Value)(n':Nat)(f':Nat→Int)(w:World)(h:ArgB w v n f)(_:n≤140737488355328)(h':ArgB w v' n' f')(_:n'≤140737488355328)(E:PEnv w)(hw:Pw w):
  Calls Tryz.prog 3 #[v,v'] w fun e w'=>e=.returned (.bool true)∧Below w.heap.size w w':=by
 obtain⟨ao,cap,rfl,hB,hf,hc,hcm,hnil⟩:=h
 obtain⟨tQ,cap',rfl,hB',hf',hc',hcm',hnil'⟩:=h'
 exact Cr hB hB' E hw hf hf' hc hcm hnil hc' hcm' hnil'
end Go.Proofs.YtgbkolonhddolaaGreatDoor.prs
