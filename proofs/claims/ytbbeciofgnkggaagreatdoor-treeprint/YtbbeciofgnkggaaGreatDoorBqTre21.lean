import Derived.Test.YtbbeciofgnkggaaGreatDoorBqTre9
import Derived.Test.YtbbeciofgnkggaaGreatDoorBqTre20
import Derived.Test.YtbbeciofgnkggaaGreatDoorBqLin1
import Derived.Test.YtbbeciofgnkggaaGreatDoorBqNod1
import Derived.Test.YtbbeciofgnkggaaGreatDoorBqLin4
set_option linter.unusedSimpArgs false
set_option linter.unusedVariables false
set_option maxRecDepth 100000
set_option maxHeartbeats 4000000
namespace Go.Proofs.YtbbeciofgnkggaaGreatDoor.tre
open Go.RowKit nod
open rng(R RV ret_int ret_bool below_drewN info_parts own_below')
open tok(PEnv TX printL)
theorem can_pat(N:Nat)(t:Nd):canD N t=(patO N t).isSome:=by
 rw[pat_doc];unfold canD
 cases h:(bodyD (partD N) t (0,[]) 0).isSome<;>by_cases h2:(bodyT (partT N) t).length≤2000<;>simp[h,h2]
theorem print_pat(N:Nat)(t:Nd):(if canD N t=true then Ending.returned (.tuple #[.string (S8 (bodyT (partT N) t)),.int .i64 0])else .returned (.tuple #[.string ⟨#[]⟩,.int .i64 1]))=Ending.returned (.tuple #[.string (patB (patO N t)),.int .i64 (if(patO N t).isSome then 0 else 1)]):=by
 rw[can_pat]
 have h:=pat_doc N t
 cases hp:patO N t with
 |none=>rfl
 |some l=>
  rw[hp]at h
  split at h
  ·cases h;rfl
  ·cases h
theorem one_block(w:World)(cs:Array Value)(t:TypeId):Below w.heap.size w (w.alloc (.cells cs t)):=(Below.refl _ w).alloc (Nat.le_refl _) _
theorem print_walk(v:Value)(t:Nd)(w:World)(hv:NV w.heap.size w t v)(hs:shortN t∧cmp.setsN t)(E:PEnv w)(hw:Pw w):
  Calls Tryz.prog 3 #[v] w fun e w'=>e=.returned (.bool true)∧Below w.heap.size w w':=by
 obtain⟨k,m,a,b,ng,n,st,ks,sa,sc,ao,cap,rfl,rfl,_⟩:=hv.open
 generalize st.length=sl at*
 generalize ks.length=nk at*
 generalize Nd.mk k m a b ng n st ks=T at*
 obtain⟨hs,hset⟩:=hs
 obtain⟨q,hq⟩:∃q,(!(fewN T 3000 300).2)=q:=⟨_,rfl⟩
 obtain⟨W0,hW0,HW0,b0,HX0⟩:=st0 w (n8 k m a b ng n sa sl sc ao nk cap) 25
 have HB0:Hid (Below w.heap.size w W0):=b0
 have HE:Hid (PEnv w):=E
 have HPW:Hid (Pw w):=hw
 have HV:Hid (∀W,Below w.heap.size w W→NV W.heap.size W T (.agg (n8 k m a b ng n sa sl sc ao nk cap))):=fun W h=>(hv.keep h).wide h.size
 have CA:Hid (∀W,Below w.heap.size w W→Calls Tryz.prog 5 #[] W fun e w'=>e=.returned (.bool true)∧Below W.heap.size W w'):=fun W h=>awk_any W (HE.out.below h) (HPW.out.on h)
 have CD:=deep_any T _ 3000 300 W0 (HV.out W0 b0) (by omega) (by omega) (by omega) (by omega)
 rw[hq]at CD
 clear hW0 b0 E hw hv
 go_enter Tryz.func3,Tryz.ntmps3
 go_upto_region 1 with fail
 rw[HW0.out]
 clear HW0
 obtain⟨x0,x1,x2,x3,x4,x5,x6,x7⟩:=at8c HX0.out
 go_wp2_with fail
 refine CD.mono ?_
 rintro e w1⟨rfl,d⟩
 have HB1:Hid (Below w.heap.size w w1):=HB0.out.trans (below_less d HB0.out.size)
 have HX1:Hid (Bk w1 w.heap.size (n8 k m a b ng n sa sl sc ao nk cap) 25):=HX0.out.on d
 clear CD d x0 x1 x2 x3 x4 x5 x6 x7 HX0 HB0
 obtain⟨x0,x1,x2,x3,x4,x5,x6,x7⟩:=at8c HX1.out
 cases q with
 |true=>
  have CW:=CA.out w1 HB1.out
  go_wp2_with fail
  refine CW.mono ?_
  rintro e w9⟨rfl,d⟩
  have HF:Hid (Below w.heap.size w w9):=HB1.out.trans (below_less d HB1.out.size)
  clear CW d
  go_wp2
  go_ret
  exact⟨rfl,HF.out⟩
 |false=>
 have hsz:T.sz≤3000:=by have:=deep_facts (t:=T) (nodes:=3000) (depth:=300) (by simpa using hq);omega
 have CC:=cmp.copy_any 3000 T _ w1.heap.size w1 hsz hsz hset (HV.out w1 HB1.out) (Nat.le_refl _)
 have HSZ:Hid (T.sz≤3000):=hsz
 have HSH:Hid (shortN T):=hs
 clear hq hsz hs hset
 go_wp2_with fail
 refine CC.mono ?_
 rintro e w2⟨v2,rfl,hF,d⟩
 have hv2:NV w2.heap.size w2 T v2:=hF w2 fun _ _ _=>rfl
 obtain⟨ck,cm,ca,cb,cg,cn,cst,cks,csa,csc,cao,ccap,_,rfl,_⟩:=hv2.open
 generalize cst.length=csl at*
 generalize cks.length=cnk at*
 clear hF CC
 obtain⟨W3,hW3⟩:∃W3,w2.alloc (.cells (n8 ck cm ca cb cg cn csa csl csc cao cnk ccap) 25)=W3:=⟨_,rfl⟩
 have HW3:Hid (w2.alloc (.cells (n8 ck cm ca cb cg cn csa csl csc cao cnk ccap) 25)=W3):=hW3
 have b23:Below w2.heap.size w2 W3:=by rw[←hW3];exact one_block _ _ _
 have b13:Below w1.heap.size w1 W3:=d.trans (below_less b23 d.size)
 obtain⟨pc,hpc⟩:∃p,w2.heap.size=p:=⟨_,rfl⟩
 have hk3:Bk W3 pc (n8 ck cm ca cb cg cn csa csl csc cao cnk ccap) 25:=by rw[←hpc,←hW3];exact Bk.new w2 _ _
 have HPC:Hid (w2.heap.size=pc):=hpc
 have HX3:Hid (Bk W3 w.heap.size (n8 k m a b ng n sa sl sc ao nk cap) 25):=HX1.out.on b13
 have HK3:Hid (Bk W3 pc (n8 ck cm ca cb cg cn csa csl csc cao cnk ccap) 25):=hk3
 have HB3:Hid (Below w.heap.size w W3):=HB1.out.trans (below_less b13 HB1.out.size)
 have HV3:Hid (∀W,Below W3.heap.size W3 W→NV W.heap.size W T (.agg (n8 ck cm ca cb cg cn csa csl csc cao cnk ccap))):=fun W h=>(hv2.keep (b23.trans (below_less h b23.size))).wide (Nat.le_trans b23.size h.size)
 have HU3:Hid (∀W,Below W3.heap.size W3 W→NV W.heap.size W T (.agg (n8 k m a b ng n sa sl sc ao nk cap))):=fun W h=>HV.out W (HB3.out.trans (below_less h HB3.out.size))
 have HSd:Hid (∀w',Below W3.heap.size W3 w'→(w'.cell? ⟨w.heap.size,0,none⟩=some (.int .i64 k)∧w'.cell? ⟨w.heap.size,1,none⟩=some (.int .i64 m)∧w'.cell? ⟨w.heap.size,2,none⟩=some (.int .i64 a)∧w'.cell? ⟨w.heap.size,3,none⟩=some (.int .i64 b)∧w'.cell? ⟨w.heap.size,4,none⟩=some (.bool ng)∧w'.cell? ⟨w.heap.size,5,none⟩=some (.string n)∧w'.cell? ⟨w.heap.size,6,none⟩=some (.slice sa sl sc)∧w'.cell? ⟨w.heap.size,7,none⟩=some (.slice ao nk cap))∧w'.cell? ⟨pc,0,none⟩=some (.int .i64 ck)∧w'.cell? ⟨pc,1,none⟩=some (.int .i64 cm)∧w'.cell? ⟨pc,2,none⟩=some (.int .i64 ca)∧w'.cell? ⟨pc,3,none⟩=some (.int .i64 cb)∧w'.cell? ⟨pc,4,none⟩=some (.bool cg)∧w'.cell? ⟨pc,5,none⟩=some (.string cn)∧w'.cell? ⟨pc,6,none⟩=some (.slice csa csl csc)∧w'.cell? ⟨pc,7,none⟩=some (.slice cao cnk ccap)):=fun w' h=>⟨at8c (HX3.out.on h),at8c (HK3.out.on h)⟩
 have CA3:Hid (∀W,Below W3.heap.size W3 W→Calls Tryz.prog 5 #[] W fun e w'=>e=.returned (.bool true)∧Below W.heap.size W w'):=fun W h=>CA.out W (HB3.out.trans (below_less h HB3.out.size))
 have he:∀W,Below W3.heap.size W3 W→PEnv W:=fun W h=>HE.out.below (HB3.out.trans (below_less h HB3.out.size))
 have hp:∀W,Below W3.heap.size W3 W→Pw W:=fun W h=>HPW.out.on (HB3.out.trans (below_less h HB3.out.size))
 have CP3:Hid (∀W,Below W3.heap.size W3 W→Calls Tryz.prog 7 #[.agg (n8 ck cm ca cb cg cn csa csl csc cao cnk ccap)] W fun e w'=>e=.returned (.tuple #[.string (patB (patO 3000 T)),.int .i64 (if(patO 3000 T).isSome then 0 else 1)])∧Below W.heap.size W w'):=fun W h=>tprint_any 3000 HSZ.out HSH.out (he W h) (hp W h) (HV3.out W h)
 have CR3:Hid (∀W,Below W3.heap.size W3 W→Calls Tryz.prog 8 #[.agg (n8 k m a b ng n sa sl sc ao nk cap)] W fun e w'=>e=.returned (.tuple #[.string (patB (patO 3000 T)),.int .i64 (if(patO 3000 T).isSome then 0 else 1)])∧Below W.heap.size W w'):=fun W h=>print_pat 3000 T▸rprint_d 3000 T _ W.heap.size W (by have:=HSZ.out;omega) (by have:=HSZ.out;omega) HSH.out (HU3.out W h) (Nat.le_refl _)
 have CC3:Hid (∀W,Below W3.heap.size W3 W→Calls Tryz.prog 9 #[.agg (n8 ck cm ca cb cg cn csa csl csc cao cnk ccap)] W fun e w'=>e=.returned (.bool (patO 3000 T).isSome)∧Below W.heap.size W w'):=fun W h=>can_any 3000 HSZ.out HSH.out (he W h) (hp W h) (HV3.out W h)
 have CN3:Hid (∀W,Below W3.heap.size W3 W→Calls Tryz.prog 10 #[.agg (n8 k m a b ng n sa sl sc ao nk cap)] W fun e w'=>e=.returned (.bool (patO 3000 T).isSome)∧Below W.heap.size W w'):=fun W h=>can_pat 3000 T▸rcan_d 3000 T _ W.heap.size W (by have:=HSZ.out;omega) (by have:=HSZ.out;omega) HSH.out (HU3.out W h) (Nat.le_refl _)
 have CS3:Hid (∀W,Below W3.heap.size W3 W→Calls Tryz.prog 11 #[.agg (n8 ck cm ca cb cg cn csa csl csc cao cnk ccap),.agg (n8 k m a b ng n sa sl sc ao nk cap)] W fun e w'=>e=.returned (.bool true)∧Below W.heap.size W w'):=fun W h=>same_any 3000 T _ _ W HSZ.out (HV3.out W h) (HU3.out W h)
 generalize patB (patO 3000 T)=RX at*
 generalize(if(patO 3000 T).isSome then(0:Int)else 1)=RC at*
 generalize(patO 3000 T).isSome=RB at*
 clear hW3 b23 b13 hpc hk3 d hv2 he hp HSZ HSH HV HV3 HU3 CA HE HPW x0 x1 x2 x3 x4 x5 x6 x7 HX1 HB1
 go_upto_region 4 with fail
 rw[HW3.out,HPC.out]
 clear HW3 HPC
 obtain⟨y0,y1,y2,y3,y4,y5,y6,y7⟩:=at8c HK3.out
 have CQ:=CP3.out W3 (Below.refl _ _)
 go_wp2_with fail
 refine CQ.mono ?_
 rintro e w4⟨rfl,d⟩
 have HB4:Hid (Below W3.heap.size W3 w4):=d
 clear CQ CP3 d y0 y1 y2 y3 y4 y5 y6 y7
 obtain⟨x0,x1,x2,x3,x4,x5,x6,x7⟩:=(HSd.out _ HB4.out).1
 go_upto_region 5 with fail
 have CQ:=CR3.out w4 HB4.out
 go_wp2_with fail
 refine CQ.mono ?_
 rintro e w5⟨rfl,d⟩
 have HB5:Hid (Below W3.heap.size W3 w5):=HB4.out.trans (below_less d HB4.out.size)
 clear CQ CR3 d x0 x1 x2 x3 x4 x5 x6 x7 HB4
 go_upto_region 6 with fail
 refine wp_region_noPanic (wp_region_held_drew (S:=fun w'=>(w'.cell? ⟨w.heap.size,0,none⟩=some (.int .i64 k)∧w'.cell? ⟨w.heap.size,1,none⟩=some (.int .i64 m)∧w'.cell? ⟨w.heap.size,2,none⟩=some (.int .i64 a)∧w'.cell? ⟨w.heap.size,3,none⟩=some (.int .i64 b)∧w'.cell? ⟨w.heap.size,4,none⟩=some (.bool ng)∧w'.cell? ⟨w.heap.size,5,none⟩=some (.string n)∧w'.cell? ⟨w.heap.size,6,none⟩=some (.slice sa sl sc)∧w'.cell? ⟨w.heap.size,7,none⟩=some (.slice ao nk cap))∧w'.cell? ⟨pc,0,none⟩=some (.int .i64 ck)∧w'.cell? ⟨pc,1,none⟩=some (.int .i64 cm)∧w'.cell? ⟨pc,2,none⟩=some (.int .i64 ca)∧w'.cell? ⟨pc,3,none⟩=some (.int .i64 cb)∧w'.cell? ⟨pc,4,none⟩=some (.bool cg)∧w'.cell? ⟨pc,5,none⟩=some (.string cn)∧w'.cell? ⟨pc,6,none⟩=some (.slice csa csl csc)∧w'.cell? ⟨pc,7,none⟩=some (.slice cao cnk ccap)) (by kernel_rfl) (HSd.out _ (HB5.out.trans (below_less (Below.refl _ _).drew HB5.out.size))) fun hHeld=>?_)
 obtain⟨w6,hw6⟩:∃Wc,w5.drew=Wc:=⟨_,rfl⟩
 have HBw6:Hid (Below W3.heap.size W3 w6):=by unfold Hid;rw[←hw6];exact HB5.out.drew
 rw[hw6]at hHeld⊢
 clear hw6 HB5
 refine lin.tH 0 (v:=?_) ?_
 try simp only[Act.put,lin.sm]
 refine lin.tH 1 (v:=?_) ?_
 try simp only[Act.put,lin.sm]
 refine lin.tH 2 (v:=?_) ?_
 try simp only[Act.put,lin.sm]
 refine lin.tH 3 (v:=?_) ?_
 try simp only[Act.put,lin.sm]
 refine lin.tH 4 (v:=?_) ?_
 try simp only[Act.put,lin.sm]
 refine lin.tH 5 (v:=?_) ?_
 try simp only[Act.put,lin.sm]
 refine lin.tH 6 (v:=?_) ?_
 try simp only[Act.put,lin.sm]
 refine lin.tH 7 (v:=?_) ?_
 try simp only[Act.put,lin.sm]
 refine lin.tH 8 (v:=?_) ?_
 try simp only[Act.put,lin.sm]
 refine lin.tH 9 (v:=?_) ?_
 try simp only[Act.put,lin.sm]
 refine lin.tH 11 (v:=?_) ?_
 try simp only[Act.put,lin.sm]
 refine wpAnyH_ready (rs:=[10]) (by kernel_rfl) (by simp) ?_
 refine(AllReadyH.cons rfl (fun K hK=>?_) AllReadyH.nil)
 have CC:=CC3.out w6 HBw6.out
 go_simp
 refine CC.mono ?_
 rintro e wa⟨rfl,d⟩
 clear CC
 have HBwa:Hid (Below W3.heap.size W3 wa):=HBw6.out.trans (below_less d HBw6.out.size)
 refine hK.out _ _ (HSd.out _ HBwa.out) (fun hHeld=>?_)
 clear hK K d HBw6
 try simp only[Act.put,lin.sm]
 refine wpAnyH_ready (rs:=[12]) (by kernel_rfl) (by simp) ?_
 refine(AllReadyH.cons rfl (fun K hK=>?_) AllReadyH.nil)
 have CC:=CN3.out wa HBwa.out
 go_simp
 refine CC.mono ?_
 rintro e wb⟨rfl,d⟩
 clear CC
 have HBwb:Hid (Below W3.heap.size W3 wb):=HBwa.out.trans (below_less d HBwa.out.size)
 refine hK.out _ _ (HSd.out _ HBwb.out) (fun hHeld=>?_)
 clear hK K d HBwa
 try simp only[Act.put,lin.sm]
 refine lin.tH 13 (v:=?_) ?_
 try simp only[Act.put,lin.sm]
 refine lin.tH 14 (v:=?_) ?_
 try simp only[Act.put,lin.sm]
 refine lin.tH 15 (v:=?_) ?_
 try simp only[Act.put,lin.sm]
 refine lin.tH 16 (v:=?_) ?_
 try simp only[Act.put,lin.sm]
 refine lin.tH 17 (v:=?_) ?_
 try simp only[Act.put,lin.sm]
 refine wpAnyH_ready (rs:=[18]) (by kernel_rfl) (by simp) ?_
 refine(AllReadyH.cons rfl (fun K hK=>?_) AllReadyH.nil)
 have CC:=CS3.out wb HBwb.out
 go_simp
 refine CC.mono ?_
 rintro e wc⟨rfl,d⟩
 clear CC
 have HBwc:Hid (Below W3.heap.size W3 wc):=HBwb.out.trans (below_less d HBwb.out.size)
 refine hK.out _ _ (HSd.out _ HBwc.out) (fun hHeld=>?_)
 clear hK K d HBwb
 try simp only[Act.put,lin.sm]
 refine lin.tH 19 (v:=?_) ?_
 try simp only[Act.put,lin.sm]
 refine lin.tH 20 (v:=?_) ?_
 try simp only[Act.put,lin.sm]
 refine wpAnyH_ready (rs:=[21]) (by kernel_rfl) (by simp) ?_
 refine(AllReadyH.cons rfl (fun K hK=>?_) AllReadyH.nil)
 have CC:=CA3.out wc HBwc.out
 go_simp
 refine CC.mono ?_
 rintro e wd⟨rfl,d⟩
 clear CC
 have HBwd:Hid (Below W3.heap.size W3 wd):=HBwc.out.trans (below_less d HBwc.out.size)
 refine hK.out _ _ (HSd.out _ HBwd.out) (fun hHeld=>?_)
 clear hK K d HBwc
 try simp only[Act.put,lin.sm]
 refine lin.tH 22 (v:=?_) ?_
 try simp only[Act.put,lin.sm]
 refine lin.tH 23 (v:=?_) ?_
 try simp only[Act.put,lin.sm]
 refine wpAnyH_done (by kernel_rfl) ?_ _
 refine NoPanic.normal ?_
 have HF:Hid (Below w.heap.size w wd):=HB3.out.trans (below_less HBwd.out HB3.out.size)
 clear hHeld HSd HX3 HK3 HB3 HBwd
 go_wp2
 go_ret
 exact⟨rfl,HF.out⟩
end Go.Proofs.YtbbeciofgnkggaaGreatDoor.tre
