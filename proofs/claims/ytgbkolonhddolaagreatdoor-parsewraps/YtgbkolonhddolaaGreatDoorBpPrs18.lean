import Derived.Test.YtgbkolonhddolaaGreatDoorBpPrs17
import Derived.Test.YtgbkolonhddolaaGreatDoorBpPrs16
import Derived.Test.YtgbkolonhddolaaGreatDoorBpTre13
import Derived.Test.YtgbkolonhddolaaGreatDoorBpTok7
set_option linter.unusedSimpArgs false
set_option linter.unusedVariables false
set_option maxRecDepth 100000
set_option maxHeartbeats 4000000
theorem Go.Proofs.YtgbkolonhddolaaGreatDoor.gm{p:Prop}(h:p):Go.RowKit.Hid p:=h
namespace Go.Proofs.YtgbkolonhddolaaGreatDoor.prs
open Go.RowKit nod tok
open lin(BA)
open tre(Pw grpN og)
theorem Bb{ao:Option Addr}{n0 cap:Nat}{f:Nat→Int}{w:World}(hB:utf.oM w ao n0 f)(E:PEnv w)(hw:Pw w)(hf:∀i,0≤f i∧f i≤255)(hc:n0≤cap)(hcm:cap≤9223372036854775807)(hnil:ao=none→n0=0):
  Calls Tryz.prog 4 #[.slice ao n0 cap] w fun e w'=>e=.returned (.bool true)∧Below w.heap.size w w':=by
 obtain⟨n,hn⟩:∃n,min n0 400=n:=⟨_,rfl⟩
 have hn1:n≤n0:=by omega
 have hn2:n≤400:=by omega
 have hn3:n≤cap:=by omega
 have hmin:min (n0:Int) 400=(n:Int):=by omega
 have hmi2:(if(n0:Int)<400 then(n0:Int)else 400)=(n:Int):=by split<;>omega
 have Ev:ao=none→n=0:=fun e=>by have:=hnil e;omega
 have hB2:utf.oM w ao n f:=hB.imp (fun h=>by omega) fun⟨b,off,e,h⟩=>⟨b,off,e,fun i hi=>h i (by omega)⟩
 obtain⟨W1,hW1⟩:∃W1,w.alloc (.cells #[.slice ao n cap] 22)=W1:=⟨_,rfl⟩
 have HW1:=gm hW1
 have B1:Below w.heap.size w W1:=by rw[←hW1];exact(Below.refl _ w).alloc (Nat.le_refl _) _
 have X1:Bk W1 w.heap.size #[.slice ao n cap] 22:=by rw[←hW1];exact Bk.new w _ _
 have hz1:W1.heap.size=w.heap.size+1:=by rw[←hW1];simp
 have HB:Hid (utf.oM w ao n f):=hB2
 have HE:Hid (PEnv w):=E
 have IJ:Hid (Pw w):=hw
 have CP:=parse_any (n:=n) (cap:=cap) (hB2.below B1) (E.below B1) (hw.on B1) hf hn3 hcm (by omega) (fQ f n hf).1 (fQ f n hf).2
 have CA:Hid (∀W,Below w.heap.size w W→Calls Tryz.prog 7 #[] W fun e w'=>e=.returned (.bool true)∧Below W.heap.size W w'):=fun W h=>wD W (E.below h) (hw.on h)
 have DF:Hid (Bk W1 w.heap.size #[.slice ao n cap] 22):=X1
 have HB1:Hid (Below w.heap.size w W1):=B1
 have HZ1:Hid (W1.heap.size=w.heap.size+1):=hz1
 have CWr:Hid (∀(O:ByteArray)W,O.size≤10→Below w.heap.size w W→W.cell? ⟨w.heap.size,0,none⟩=some (.slice ao n cap)→Calls Tryz.prog 11 #[.string O,.pointer (some ⟨w.heap.size,0,none⟩)] W fun e w'=>Pd W (ax bU (uT O f n) (O.size+n+1)) e w'):=fun O W hO h hx=>I7 O hO hx (HB.out.below h) Ev (HE.out.below h) (IJ.out.on h) hf hn2
 obtain⟨R1,hR1⟩:∃R,ax bU f n=R:=⟨_,rfl⟩
 have uL:=yE (f:=f) (n:=n)
 have HGR:=vE (f:=f) (n:=n)
 dsimp only at uL
 obtain⟨Rx,hRx⟩:∃R,ax bU (uT oP f n) (oP.size+n+1)=R:=⟨_,rfl⟩
 obtain⟨Ry,hRy⟩:∃R,ax bU (uT oN f n) (oN.size+n+1)=R:=⟨_,rfl⟩
 have CX:Hid (∀W,Below w.heap.size w W→W.cell? ⟨w.heap.size,0,none⟩=some (.slice ao n cap)→Calls Tryz.prog 11 #[.string oP,.pointer (some ⟨w.heap.size,0,none⟩)] W (Pd W Rx)):=fun W h hx=>by rw[←hRx];exact CWr.out oP W (by decide) h hx
 have CY:Hid (∀W,Below w.heap.size w W→W.cell? ⟨w.heap.size,0,none⟩=some (.slice ao n cap)→Calls Tryz.prog 11 #[.string oN,.pointer (some ⟨w.heap.size,0,none⟩)] W (Pd W Ry)):=fun W h hx=>by rw[←hRy];exact CWr.out oN W (by decide) h hx
 rw[hR1]at CP uL HGR
 rw[hRx,hRy]at uL
 obtain⟨t1,c1,p1⟩:=R1
 obtain⟨tx,cx,px⟩:=Rx
 obtain⟨ty,cy,py⟩:=Ry
 dsimp only at uL HGR
 have HPLh:=gm uL
 have HGRh:Hid (c1=0→grpN t1≤20):=HGR
 clear uL HGR hB hB2 E hw hW1 B1 X1 hz1 hR1 hRx hRy CWr hn hf hnil
 go_enter Tryz.func4,Tryz.ntmps4
 go_upto_region 2 with fail
 rw[HW1.out]
 have x1:=DF.out.cell 0 rfl
 go_wp2_with fail
 refine CP.mono ?_
 rintro e w2⟨⟨uk,um,ua,ub,ug,un,yo,yj,yl⟩,rfl,hfz,hb2⟩
 clear CP x1
 dsimp only at hfz
 dsimp only[a8]
 have HT1:=gm hfz.nv
 have EJ:Hid (Bk w2 w.heap.size #[.slice ao n cap] 22):=DF.out.on hb2
 have H02:Hid (Below w.heap.size w w2):=HB1.out.trans (ae hb2 HB1.out.size)
 have HZ2:Hid (w.heap.size<w2.heap.size):=by have:=hb2.size;have:=HZ1.out;unfold Hid;omega
 clear hfz hb2 DF HB1 HZ1
 obtain⟨W3,hW3⟩:∃W3,(w2.alloc (.cells #[.int .i64 uk,.int .i64 um,.int .i64 ua,.int .i64 ub,.bool ug,.string un,.slice none 0 0,.slice yo yj yl] 26)).alloc (.cells #[.int .i64 c1,.int .i64 (p1:Int)] 29)=W3:=⟨_,rfl⟩
 have B3:Below w2.heap.size w2 W3:=by rw[←hW3];exact((Below.refl _ w2).alloc (Nat.le_refl _) _).alloc (by simp) _
 have K3:Bk W3 w2.heap.size #[.int .i64 uk,.int .i64 um,.int .i64 ua,.int .i64 ub,.bool ug,.string un,.slice none 0 0,.slice yo yj yl] 26:=by rw[←hW3];exact(Bk.new w2 _ _).past _
 have F3:Bk W3 (w2.heap.size+1) #[.int .i64 c1,.int .i64 (p1:Int)] 29:=by rw[←hW3];have:=Bk.new (w2.alloc (.cells #[.int .i64 uk,.int .i64 um,.int .i64 ua,.int .i64 ub,.bool ug,.string un,.slice none 0 0,.slice yo yj yl] 26)) #[.int .i64 c1,.int .i64 (p1:Int)] 29;simpa using this
 have HW3:=gm hW3
 have HZ3:Hid (W3.heap.size=w2.heap.size+2):=by unfold Hid;rw[←hW3];simp
 have HX3:Hid (Bk W3 w.heap.size #[.slice ao n cap] 22):=EJ.out.on B3
 have Iz:Hid (Below w.heap.size w W3):=H02.out.trans (ae B3 H02.out.size)
 have HB3:Hid (Below w2.heap.size w2 W3):=B3
 have Iw:=gm K3
 have HF3:=gm F3
 have H02b:Hid (Below w.heap.size w w2):=H02.out
 clear hW3 B3 K3 F3 EJ H02
 go_upto_region 3 with fail
 rw[HW3.out]
 clear HW3
 have f0:=HF3.out.cell 0 rfl
 by_cases h1:c1=0
 rotate_left
 ·have z1:(c1==0)=false:=by simp[h1]
  go_wp2_with(go_at_call 7;refine(CA.out _ Iz.out).mono ?_;rintro e w4⟨rfl,d⟩;have H04:Hid (Below w.heap.size w w4):=Iz.out.trans (ae d Iz.out.size);clear d)
  go_ret
  exact⟨rfl,H04.out⟩
 subst h1
 have CG:=qx t1.sz t1 (.agg #[.int .i64 uk,.int .i64 um,.int .i64 ua,.int .i64 ub,.bool ug,.string un,.slice none 0 0,.slice yo yj yl]) W3 (Nat.le_refl _) (by have:=HGRh.out rfl;omega) ((HT1.out.keep HB3.out).wide HB3.out.size)
 obtain⟨G,hG⟩:∃G,grpN t1=G:=⟨_,rfl⟩
 have HG:Hid (grpN t1=G):=hG
 have hG0:0≤G:=by rw[←hG];exact oC t1
 rw[hG]at CG
 clear hG HGRh
 have n0:=Iw.out.cell 0 rfl
 have n1:=Iw.out.cell 1 rfl
 have n2:=Iw.out.cell 2 rfl
 have n3:=Iw.out.cell 3 rfl
 have n4:=Iw.out.cell 4 rfl
 have n5:=Iw.out.cell 5 rfl
 have n6:=Iw.out.cell 6 rfl
 have n7:=Iw.out.cell 7 rfl
 by_cases h2:G=0
 rotate_left
 ·have z2:decide (0<G)=true:=by simp;omega
  have z3:0<G:=by omega
  go_wp2_with(first
   |(go_at_call 6;refine CG.mono ?_;rintro e w4⟨rfl,d⟩;have H04:Hid (Below w.heap.size w w4):=Iz.out.trans (ae d Iz.out.size);clear d CG)
   |(go_at_call 7;refine(CA.out _ H04.out).mono ?_;rintro e w5⟨rfl,d⟩;have DK:Hid (Below w.heap.size w w5):=H04.out.trans (ae d H04.out.size);clear d))
  go_ret
  exact⟨rfl,DK.out⟩
 subst h2
 have HPLg:Hid ((cx=4∨cy=4∨cx=153)∨((tx,cx,px)=(eB [.mk 9 0 0 0 false ⟨#[]⟩ [] [t1]],0,0)∧(ty,cy,py)=(eB [.mk 9 0 1 0 false ⟨#[110]⟩ [] [t1]],0,0))):=HPLh.out rfl HG.out
 clear HPLh HG hG0
 go_wp2_with(go_at_call 6;refine CG.mono ?_;rintro e w4⟨rfl,d⟩;have HD4:Hid (Below W3.heap.size W3 w4):=d;clear d CG)
 have HX4:Hid (Bk w4 w.heap.size #[.slice ao n cap] 22):=HX3.out.on HD4.out
 have HK4:=gm (Iw.out.on HD4.out)
 have HF4:=gm (HF3.out.on HD4.out)
 have H04:Hid (Below w.heap.size w w4):=Iz.out.trans (ae HD4.out Iz.out.size)
 have uO:Hid (Below w2.heap.size w2 w4):=HB3.out.trans (ae HD4.out HB3.out.size)
 have yA:Hid (w2.heap.size+2≤w4.heap.size):=by have:=HD4.out.size;have:=HZ3.out;unfold Hid;omega
 have CXw:=CX.out w4 H04.out (HX4.out.cell 0 rfl)
 unfold oP at CXw
 clear n0 n1 n2 n3 n4 n5 n6 n7 f0 HX3 Iw HF3 Iz HB3 HZ3 HD4 CX
 refine CXw.mono ?_
 rintro e w5⟨⟨vk,vm,va,vb,vg,vn,Bj,Bh,Bi⟩,rfl,hfx,hb5⟩
 clear CXw
 dsimp only at hfx
 dsimp only[a8]
 have HTX:=gm hfx.nv
 have hfx6:=hfx
 have HS4b:Hid (w2.heap.size+2≤w4.heap.size):=yA.out
 have HX5:Hid (Bk w5 w.heap.size #[.slice ao n cap] 22):=HX4.out.on hb5
 have HK5:=gm (HK4.out.on hb5)
 have HF5:=gm (HF4.out.on hb5)
 have DK:Hid (Below w.heap.size w w5):=H04.out.trans (ae hb5 H04.out.size)
 have ES:Hid (Below w2.heap.size w2 w5):=uO.out.trans (ae hb5 uO.out.size)
 have nO:Hid (w2.heap.size+2≤w5.heap.size):=Nat.le_trans yA.out hb5.size
 clear hfx hb5 HX4 HK4 HF4 H04 uO yA
 have HFa:=HF5.out.past (.cells #[.int .i64 vk,.int .i64 vm,.int .i64 va,.int .i64 vb,.bool vg,.string vn,.slice none 0 0,.slice Bj Bh Bi] 26)
 have k0:=HFa.cell 0 rfl
 have k1:=HFa.cell 1 rfl
 have l0:=HFa.frozen 0
 have l1:=HFa.frozen 1
 clear HFa
 have q1:¬w2.heap.size+1=w5.heap.size:=by have:=nO.out;omega
 have q2:¬w5.heap.size=w2.heap.size+1:=by have:=nO.out;omega
 obtain⟨W6,hW6⟩:∃W6,((w5.alloc (.cells #[.int .i64 vk,.int .i64 vm,.int .i64 va,.int .i64 vb,.bool vg,.string vn,.slice none 0 0,.slice Bj Bh Bi] 26)).setCell ⟨w2.heap.size+1,0,none⟩ (.int .i64 cx)).setCell ⟨w2.heap.size+1,1,none⟩ (.int .i64 (px:Int))=W6:=⟨_,rfl⟩
 have B6:Below w2.heap.size w2 W6:=by rw[←hW6];exact((ES.out.alloc (by have:=nO.out;omega) _).setCell (Nat.le_succ _) _).setCell (Nat.le_succ _) _
 have X6:Bk W6 w.heap.size #[.slice ao n cap] 22:=by rw[←hW6];exact((HX5.out.past _).apart (by have:=HZ2.out;omega) _).apart (by have:=HZ2.out;omega) _
 have K6:Bk W6 w2.heap.size #[.int .i64 uk,.int .i64 um,.int .i64 ua,.int .i64 ub,.bool ug,.string un,.slice none 0 0,.slice yo yj yl] 26:=by rw[←hW6];exact((HK5.out.past _).apart (by omega) _).apart (by omega) _
 have F6:Bk W6 (w2.heap.size+1) #[.int .i64 cx,.int .i64 (px:Int)] 29:=by rw[←hW6];exact(HF5.out.past _).set2 _ _
 have N6:Bk W6 w5.heap.size #[.int .i64 vk,.int .i64 vm,.int .i64 va,.int .i64 vb,.bool vg,.string vn,.slice none 0 0,.slice Bj Bh Bi] 26:=by rw[←hW6];exact((Bk.new w5 _ _).apart q2 _).apart q2 _
 have T6:NV W6.heap.size W6 tx (.agg #[.int .i64 vk,.int .i64 vm,.int .i64 va,.int .i64 vb,.bool vg,.string vn,.slice none 0 0,.slice Bj Bh Bi]):=by
  rw[←hW6]
  exact(hfx6.to (by simp[World.setCell]) fun k hk(hd:w4.heap.size≤k)=>⟨by have:=HS4b.out;rw[Below.heap_setCell _ _ _ _ (show k≠w2.heap.size+1 by omega),Below.heap_setCell _ _ _ _ (show k≠w2.heap.size+1 by omega),((Below.refl _ w5).alloc (Nat.le_refl _) _).block k hk],hd⟩).nv
 have HW6:=gm hW6
 have HZ6:Hid (W6.heap.size=w5.heap.size+1):=by unfold Hid;rw[←hW6];simp[World.setCell]
 have HX6:Hid (Bk W6 w.heap.size #[.slice ao n cap] 22):=X6
 have HK6:=gm K6
 have HF6:=gm F6
 have HN6:=gm N6
 have HTX6:=gm T6
 have HB6:Hid (Below w2.heap.size w2 W6):=B6
 have uP:Hid (Below w.heap.size w W6):=H02b.out.trans (ae B6 H02b.out.size)
 clear hW6 B6 X6 K6 F6 N6 T6 hfx6 HX5 HK5 HF5 DK ES HTX
 go_upto_region 7 with fail
 rw[HW6.out]
 clear HW6 k0 k1 l0 l1 q1 q2
 have CYw:=CY.out W6 uP.out (HX6.out.cell 0 rfl)
 unfold oN at CYw
 clear CY
 go_wp2_with fail
 refine CYw.mono ?_
 rintro e w7⟨⟨zk,zm,za,zb,zg,zn,zka,zkn,zkc⟩,rfl,hfy,lI⟩
 clear CYw
 dsimp only at hfy
 dsimp only[a8]
 obtain⟨W8,hW8⟩:∃W8,(w7.alloc (.cells #[.int .i64 zk,.int .i64 zm,.int .i64 za,.int .i64 zb,.bool zg,.string zn,.slice none 0 0,.slice zka zkn zkc] 26)).alloc (.cells #[.int .i64 cy,.int .i64 (py:Int)] 29)=W8:=⟨_,rfl⟩
 have B78:Below w7.heap.size w7 W8:=by rw[←hW8];exact bP w7 _ _
 have B68:Below W6.heap.size W6 W8:=lI.trans (ae B78 lI.size)
 have HTY8:=gm ((hfy.nv.keep B78).wide B78.size)
 have HTX8:=gm ((HTX6.out.keep B68).wide B68.size)
 have HT8:=gm ((HT1.out.keep (HB6.out.trans (ae B68 HB6.out.size))).wide (Nat.le_trans HB6.out.size B68.size))
 have HK8:=gm (HK6.out.on B68)
 have IQ:=gm (HF6.out.on B68)
 have HN8:=gm (HN6.out.on B68)
 have HM8:Hid (Bk W8 w7.heap.size #[.int .i64 zk,.int .i64 zm,.int .i64 za,.int .i64 zb,.bool zg,.string zn,.slice none 0 0,.slice zka zkn zkc] 26):=by unfold Hid;rw[←hW8];exact(Bk.new w7 _ _).past _
 have HG8:Hid (Bk W8 (w7.heap.size+1) #[.int .i64 cy,.int .i64 (py:Int)] 29):=by unfold Hid;rw[←hW8];exact bk2
 have mW:Hid (Below w.heap.size w W8):=uP.out.trans (ae B68 uP.out.size)
 have HW8:=gm hW8
 clear hW8 B78 B68 hfy lI HX6 HK6 HF6 HN6 HTX6 HB6 uP HZ6 HT1
 go_upto_region 8 with fail
 rw[HW8.out]
 clear HW8
 have f0:=IQ.out.cell 0 rfl
 have g0:=HG8.out.cell 0 rfl
 rcases HPLg.out with hE|⟨hx,hy⟩
 ·clear HPLg
  have hE':cx=4∨(¬cx=4∧cy=4)∨(¬cx=4∧¬cy=4∧cx=153):=by omega
  rcases hE' with rfl|⟨a1,rfl⟩|⟨_,a2,rfl⟩
  ·go_wp2_with(go_at_call 7;refine(CA.out _ mW.out).mono ?_;rintro e w9⟨rfl,d⟩;have H09:Hid (Below w.heap.size w w9):=mW.out.trans (ae d mW.out.size);clear d)
   go_ret
   exact⟨rfl,H09.out⟩
  ·have z1:(cx==4)=false:=by simp[a1]
   go_wp2_with(go_at_call 7;refine(CA.out _ mW.out).mono ?_;rintro e w9⟨rfl,d⟩;have H09:Hid (Below w.heap.size w w9):=mW.out.trans (ae d mW.out.size);clear d)
   go_ret
   exact⟨rfl,H09.out⟩
  ·have z1:(cy==4)=false:=by simp[a2]
   go_wp2_with(go_at_call 7;refine(CA.out _ mW.out).mono ?_;rintro e w9⟨rfl,d⟩;have H09:Hid (Below w.heap.size w w9):=mW.out.trans (ae d mW.out.size);clear d)
   go_ret
   exact⟨rfl,H09.out⟩
 clear HPLg
 simp only[Prod.mk.injEq]at hx hy
 obtain⟨ex,rfl,rfl⟩:=hx
 obtain⟨ey,rfl,rfl⟩:=hy
 have HEX:=gm ex
 have HEY:=gm ey
 clear ex ey
 have AR:Hid (∀w',Below W8.heap.size W8 w'→w'.cell? ⟨w2.heap.size+1,0,none⟩=some (.int .i64 0)∧w'.cell? ⟨w7.heap.size+1,0,none⟩=some (.int .i64 0)∧(w'.cell? ⟨w5.heap.size,0,none⟩=some (.int .i64 vk)∧w'.cell? ⟨w5.heap.size,1,none⟩=some (.int .i64 vm)∧w'.cell? ⟨w5.heap.size,2,none⟩=some (.int .i64 va)∧w'.cell? ⟨w5.heap.size,3,none⟩=some (.int .i64 vb)∧w'.cell? ⟨w5.heap.size,4,none⟩=some (.bool vg)∧w'.cell? ⟨w5.heap.size,5,none⟩=some (.string vn)∧w'.cell? ⟨w5.heap.size,6,none⟩=some (.slice none 0 0)∧w'.cell? ⟨w5.heap.size,7,none⟩=some (.slice Bj Bh Bi))∧(w'.cell? ⟨w2.heap.size,0,none⟩=some (.int .i64 uk)∧w'.cell? ⟨w2.heap.size,1,none⟩=some (.int .i64 um)∧w'.cell? ⟨w2.heap.size,2,none⟩=some (.int .i64 ua)∧w'.cell? ⟨w2.heap.size,3,none⟩=some (.int .i64 ub)∧w'.cell? ⟨w2.heap.size,4,none⟩=some (.bool ug)∧w'.cell? ⟨w2.heap.size,5,none⟩=some (.string un)∧w'.cell? ⟨w2.heap.size,6,none⟩=some (.slice none 0 0)∧w'.cell? ⟨w2.heap.size,7,none⟩=some (.slice yo yj yl))∧(w'.cell? ⟨w7.heap.size,0,none⟩=some (.int .i64 zk)∧w'.cell? ⟨w7.heap.size,1,none⟩=some (.int .i64 zm)∧w'.cell? ⟨w7.heap.size,2,none⟩=some (.int .i64 za)∧w'.cell? ⟨w7.heap.size,3,none⟩=some (.int .i64 zb)∧w'.cell? ⟨w7.heap.size,4,none⟩=some (.bool zg)∧w'.cell? ⟨w7.heap.size,5,none⟩=some (.string zn)∧w'.cell? ⟨w7.heap.size,6,none⟩=some (.slice none 0 0)∧w'.cell? ⟨w7.heap.size,7,none⟩=some (.slice zka zkn zkc))):=fun w' d=>⟨(IQ.out.on d).cell 0 rfl,(HG8.out.on d).cell 0 rfl,cl8 (HN8.out.on d),cl8 (HK8.out.on d),cl8 (HM8.out.on d)⟩
 clear f0 g0
 have x0:=IQ.out.cell 0 rfl
 have y0:=HG8.out.cell 0 rfl
 go_upto_region 11 with fail
 clear x0 y0
 refine lin.UH.begin (S:=fun w'=>w'.cell? ⟨w2.heap.size+1,0,none⟩=some (.int .i64 0)∧w'.cell? ⟨w7.heap.size+1,0,none⟩=some (.int .i64 0)∧(w'.cell? ⟨w5.heap.size,0,none⟩=some (.int .i64 vk)∧w'.cell? ⟨w5.heap.size,1,none⟩=some (.int .i64 vm)∧w'.cell? ⟨w5.heap.size,2,none⟩=some (.int .i64 va)∧w'.cell? ⟨w5.heap.size,3,none⟩=some (.int .i64 vb)∧w'.cell? ⟨w5.heap.size,4,none⟩=some (.bool vg)∧w'.cell? ⟨w5.heap.size,5,none⟩=some (.string vn)∧w'.cell? ⟨w5.heap.size,6,none⟩=some (.slice none 0 0)∧w'.cell? ⟨w5.heap.size,7,none⟩=some (.slice Bj Bh Bi))∧(w'.cell? ⟨w2.heap.size,0,none⟩=some (.int .i64 uk)∧w'.cell? ⟨w2.heap.size,1,none⟩=some (.int .i64 um)∧w'.cell? ⟨w2.heap.size,2,none⟩=some (.int .i64 ua)∧w'.cell? ⟨w2.heap.size,3,none⟩=some (.int .i64 ub)∧w'.cell? ⟨w2.heap.size,4,none⟩=some (.bool ug)∧w'.cell? ⟨w2.heap.size,5,none⟩=some (.string un)∧w'.cell? ⟨w2.heap.size,6,none⟩=some (.slice none 0 0)∧w'.cell? ⟨w2.heap.size,7,none⟩=some (.slice yo yj yl))∧(w'.cell? ⟨w7.heap.size,0,none⟩=some (.int .i64 zk)∧w'.cell? ⟨w7.heap.size,1,none⟩=some (.int .i64 zm)∧w'.cell? ⟨w7.heap.size,2,none⟩=some (.int .i64 za)∧w'.cell? ⟨w7.heap.size,3,none⟩=some (.int .i64 zb)∧w'.cell? ⟨w7.heap.size,4,none⟩=some (.bool zg)∧w'.cell? ⟨w7.heap.size,5,none⟩=some (.string zn)∧w'.cell? ⟨w7.heap.size,6,none⟩=some (.slice none 0 0)∧w'.cell? ⟨w7.heap.size,7,none⟩=some (.slice zka zkn zkc))) (by kernel_rfl) (AR.out _ (Below.refl _ W8).drew) (fun hHeld=>?_)
 iterate 12
  refine lin.UH.take (v:=?_) rfl (by kernel_rfl) (fun _ _ _ h=>h) (by rfl) ?_ (by assumption) ?_
  rotate_left
  ·(intro w' hSw;(try dsimp only at hSw);go_simp;try with_reducible rfl)
  try simp only[Act.put,lin.sm]
 obtain⟨W9,hW9⟩:∃W9,(W8.alloc (.cells #[.int .i64 uk,.int .i64 um,.int .i64 ua,.int .i64 ub,.bool ug,.string un,.slice none 0 0,.slice yo yj yl] 26)).drew=W9:=⟨_,rfl⟩
 have B89:Below W8.heap.size W8 W9:=by rw[←hW9];exact((Below.refl _ W8).alloc (Nat.le_refl _) _).drew
 have K9:Bk W9 W8.heap.size #[.int .i64 uk,.int .i64 um,.int .i64 ua,.int .i64 ub,.bool ug,.string un,.slice none 0 0,.slice yo yj yl] 26:=by rw[←hW9];exact(Bk.new W8 _ _).on (Below.refl _ _).drew
 have HW9:=gm hW9
 have CC:=DZ (Cg 9 0 ⟨#[]⟩ (ai 9 (by decide)) (ai 0 (by decide)) (by decide) HT8.out B89 K9)
 have HB89:Hid (Below W8.heap.size W8 W9):=B89
 clear hW9 B89 K9
 refine lin.UH.one (by kernel_rfl) rfl (fun K hK=>?_)
 go_simp
 rw[HW9.out]
 refine hK.out _ _ (AR.out _ HB89.out) (fun hHeld=>?_)
 clear hK K HW9
 try simp only[Act.put,lin.sm]
 refine lin.UH.take (v:=?_) rfl (by kernel_rfl) (fun _ _ _ h=>h) (by rfl) ?_ (by assumption) ?_
 rotate_left
 ·(intro w' hSw;(try dsimp only at hSw);go_simp;try with_reducible rfl)
 try simp only[Act.put,lin.sm]
 refine lin.UH.one (by kernel_rfl) rfl (fun K hK=>?_)
 go_simp
 refine CC.mono ?_
 rintro e qG⟨v10,rfl,hv10,uE⟩
 clear CC
 have B810:=HB89.out.trans (ae uE HB89.out.size)
 have CS:=tre.rP tx.sz tx (.agg #[.int .i64 vk,.int .i64 vm,.int .i64 va,.int .i64 vb,.bool vg,.string vn,.slice none 0 0,.slice Bj Bh Bi]) v10 qG (Nat.le_refl _) ((HTX8.out.keep B810).wide B810.size) (by rw[HEX.out];exact hv10)
 have ER:Hid (Below W8.heap.size W8 qG):=B810
 clear hv10 uE B810 HB89
 refine hK.out _ _ (AR.out _ ER.out) (fun hHeld=>?_)
 clear hK K
 try simp only[Act.put,lin.sm]
 refine lin.UH.one (by kernel_rfl) rfl (fun K hK=>?_)
 go_simp
 refine CS.mono ?_
 rintro e uu⟨rfl,GZ⟩
 clear CS
 have wH:Hid (Below W8.heap.size W8 uu):=ER.out.trans (ae GZ ER.out.size)
 clear GZ ER
 refine hK.out _ _ (AR.out _ wH.out) (fun hHeld=>?_)
 clear hK K
 try simp only[Act.put,lin.sm]
 iterate 5
  refine lin.UH.take (v:=?_) rfl (by kernel_rfl) (fun _ _ _ h=>h) (by rfl) ?_ (by assumption) ?_
  rotate_left
  ·(intro w' hSw;(try dsimp only at hSw);go_simp;try with_reducible rfl)
  try simp only[Act.put,lin.sm]
 obtain⟨kX,uF⟩:∃kX,uu.alloc (.cells #[.int .i64 uk,.int .i64 um,.int .i64 ua,.int .i64 ub,.bool ug,.string un,.slice none 0 0,.slice yo yj yl] 26)=kX:=⟨_,rfl⟩
 have qF:Below uu.heap.size uu kX:=by rw[←uF];exact(Below.refl _ uu).alloc (Nat.le_refl _) _
 have B812:Below W8.heap.size W8 kX:=wH.out.trans (ae qF wH.out.size)
 have K12:Bk kX uu.heap.size #[.int .i64 uk,.int .i64 um,.int .i64 ua,.int .i64 ub,.bool ug,.string un,.slice none 0 0,.slice yo yj yl] 26:=by rw[←uF];exact Bk.new uu _ _
 have Mc:=gm uF
 have CC:=DZ (Cg 9 1 ⟨#[110]⟩ (ai 9 (by decide)) (ai 1 (by decide)) (by decide) ((HT8.out.keep wH.out).wide wH.out.size) qF K12)
 have EP:Hid (Below W8.heap.size W8 kX):=B812
 clear uF qF B812 K12 wH
 refine lin.UH.one (by kernel_rfl) rfl (fun K hK=>?_)
 go_simp
 rw[Mc.out]
 refine hK.out _ _ (AR.out _ EP.out) (fun hHeld=>?_)
 clear hK K Mc
 try simp only[Act.put,lin.sm]
 refine lin.UH.take (v:=?_) rfl (by kernel_rfl) (fun _ _ _ h=>h) (by rfl) ?_ (by assumption) ?_
 rotate_left
 ·(intro w' hSw;(try dsimp only at hSw);go_simp;try with_reducible rfl)
 try simp only[Act.put,lin.sm]
 refine lin.UH.one (by kernel_rfl) rfl (fun K hK=>?_)
 go_simp
 refine CC.mono ?_
 rintro e w13⟨v13,rfl,hv13,hb13⟩
 clear CC
 have B813:=EP.out.trans (ae hb13 EP.out.size)
 have CS:=tre.rP ty.sz ty (.agg #[.int .i64 zk,.int .i64 zm,.int .i64 za,.int .i64 zb,.bool zg,.string zn,.slice none 0 0,.slice zka zkn zkc]) v13 w13 (Nat.le_refl _) ((HTY8.out.keep B813).wide B813.size) (by rw[HEY.out];exact hv13)
 have EO:Hid (Below W8.heap.size W8 w13):=B813
 clear hv13 hb13 B813 EP
 refine hK.out _ _ (AR.out _ EO.out) (fun hHeld=>?_)
 clear hK K
 try simp only[Act.put,lin.sm]
 refine lin.UH.one (by kernel_rfl) rfl (fun K hK=>?_)
 go_simp
 refine CS.mono ?_
 rintro e w14⟨rfl,hb14⟩
 clear CS
 have AZ:Hid (Below W8.heap.size W8 w14):=EO.out.trans (ae hb14 EO.out.size)
 clear hb14 EO
 refine hK.out _ _ (AR.out _ AZ.out) (fun hHeld=>?_)
 clear hK K
 try simp only[Act.put,lin.sm]
 iterate 2
  refine lin.UH.take (v:=?_) rfl (by kernel_rfl) (fun _ _ _ h=>h) (by rfl) ?_ (by assumption) ?_
  rotate_left
  ·(intro w' hSw;(try dsimp only at hSw);go_simp;try with_reducible rfl)
  try simp only[Act.put,lin.sm]
 have H014:Hid (Below w.heap.size w w14):=mW.out.trans (ae AZ.out mW.out.size)
 have CZ:=CA.out _ H014.out
 refine lin.UH.one (by kernel_rfl) rfl (fun K hK=>?_)
 go_simp
 refine CZ.mono ?_
 rintro e w15⟨rfl,Cz⟩
 clear CZ
 have H015:Hid (Below w.heap.size w w15):=H014.out.trans (ae Cz H014.out.size)
 refine hK.out _ _ (AR.out _ (AZ.out.trans (ae Cz AZ.out.size))) (fun hHeld=>?_)
 clear hK K Cz H014 AZ
 try simp only[Act.put,lin.sm]
 refine lin.UH.take (v:=?_) rfl (by kernel_rfl) (fun _ _ _ h=>h) (by rfl) ?_ (by assumption) ?_
 rotate_left
 ·(intro w' hSw;(try dsimp only at hSw);go_simp;try with_reducible rfl)
 try simp only[Act.put,lin.sm]
 refine lin.UH.one (by kernel_rfl) rfl (fun K hK=>?_)
 go_simp
 refine hK.out _ _ hHeld (fun hHeld=>?_)
 clear hK K
 try simp only[Act.put,lin.sm]
 refine lin.UH.fin (by kernel_rfl) ?_
 go_wp2
 go_ret
 exact⟨rfl,H015.out⟩
theorem wraps_w(v:Value)(n:Nat)(f:Nat→Int)(w:World)(h:ArgB w v n f)(_:n≤140737488355328)(E:PEnv w)(hw:Pw w):Calls Tryz.prog 4 #[v] w fun e w'=>e=.returned (.bool true)∧Below w.heap.size w w':=by
 obtain⟨ao,cap,rfl,hB,hf,hc,hcm,hnil⟩:=h
 exact Bb hB E hw hf hc hcm hnil
end Go.Proofs.YtgbkolonhddolaaGreatDoor.prs
