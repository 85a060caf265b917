import Derived.Test.YtgbkolonhddolaaGreatDoorBpPrs7
set_option linter.unusedSectionVars false
set_option linter.unusedSimpArgs false
set_option linter.unusedVariables false
set_option maxRecDepth 100000
set_option maxHeartbeats 2000000
theorem Go.Proofs.YtgbkolonhddolaaGreatDoor.hd25{p:Prop}(h:p):Go.RowKit.Hid p:=h
namespace Go.Proofs.YtgbkolonhddolaaGreatDoor.prs
open Go.RowKit nod tok
open rng(R RV info_parts)
open lin(BA)
variable[gh:Gh]
/--What a step comes to: the machine's error, or its next state, in memory. -/
def Ok(K B pb:Nat)(w:World)(r:Except Int PS)(e:Ending)(w':World):Prop:=
 Below B w w'∧((∃c,r=.error c∧e=.returned (.int .i64 c)∧je gh w')∨∃s',r=.ok s'∧e=.returned (.int .i64 0)∧∃bl cl bv cv nv,Sx K B w' pb s' bl cl bv cv nv)
theorem Sx.base{K B:Nat}{w:World}{pb s b bl cl bv cv nv}(h:Sx K B w pb s (b::bl) cl bv cv nv):B≤w.heap.size:=by
 obtain⟨g',cap',e,hBg,hgl,_⟩:=h.px.body
 omega
theorem cZ{w:World}{t:TypeId}{B n z:Nat}{v:Value}{xs:List Value}(h:w.ownsRow B t z v n xs):∃a c,v=.slice a n c:=by
 rcases h.2 with⟨rfl,rfl⟩|⟨g,cap,cur,rfl,_⟩
 ·exact⟨_,_,rfl⟩
 ·exact⟨_,_,rfl⟩
/--How deep it is. -/
theorem Sx.depth{K B:Nat}{w:World}{pb s b bl cl bv cv nv}(h:Sx K B w pb s (b::bl) cl bv cv nv)(hK:K≤100000):Calls Tryz.prog 16 #[.pointer (some ⟨pb,0,none⟩)] w fun e w'=>e=.returned (.int .i64 ((s.depth:Nat):Int))∧Below w.heap.size w w':=by
 have hb:=h.px.bo
 have hc:=h.px.co
 obtain⟨ba,bc,rfl⟩:=cZ hb
 obtain⟨ca,cc,rfl⟩:=cZ hc
 have h1:=h.br.len
 have h2:=h.cx.len
 have hlb:=h.lb
 have hlc:=h.lc
 have hd:s.depth=bl.length+cl.length:=by unfold PS.depth;rw[←h1,←h2,List.length_cons];omega
 rw[hd]
 exact Hw w pb _ nv ba ca bl.length cl.length bc cc h.px.blk (by simp only[List.length_cons]at hlb;omega) (by omega)
theorem infoCls:(Tryz.prog.info? 86).map (fun i=>(i.zero,i.size,i.bytes))=some (some (.agg #[.bool false,.int .i64 0,.int .i64 0,.int .i64 0,.int .i64 0,.int .i64 0,.bool false,.string ⟨#[]⟩,.slice none 0 0,.slice none 0 0,.slice none 0 0]),11,144):=by kernel_rfl
def uA(g:Bool):Kv:=⟨g,0,z0,(none,0,0)⟩
/--A class more. -/
theorem Sx.BS{K B:Nat}{w w2 w5:World}{pb s bl cl bv cv nv}{g5 c:Nat}{ng:Bool}(h:Sx K B w pb s bl cl bv cv nv)(hA:Below w.heap.size w w2)
  (h5:w5.ownsRow B 86 11 (.slice (some ⟨g5,0,none⟩) (cl.length+1) c) (cl.length+1) (dm c11 cl.reverse++c11 (uA ng)))(hg:w2.grownBy w5 cv.ownBlock):
  Sx (K+1) B (w5.setCell ⟨pb,2,none⟩ (.slice (some ⟨g5,0,none⟩) (cl.length+1) c)) pb ⟨s.next,s.bs,⟨ng,0,zN,[]⟩::s.cs,s.nm⟩ bl (uA ng::cl) bv (.slice (some ⟨g5,0,none⟩) (cl.length+1) c) nv∧
  (w5.cell? ⟨pb,2,none⟩=some cv∧w5.frozen? ⟨pb,2,none⟩=false∧w5.frozen? ⟨pb,0,none⟩=false∧w5.cell? ⟨pb,0,none⟩=some (nextV pb s.next))∧Below B w (w5.setCell ⟨pb,2,none⟩ (.slice (some ⟨g5,0,none⟩) (cl.length+1) c)):=by
 have h2:=h.below hA
 have hcv:∀k,cv.ownBlock=some k→¬lh w2 k:=fun k e=>bT h2.px.co (by decide) e
 have hu1:NU none w2 w5:=NU.iU hg hcv
 have hbk:Bk w5 pb #[nextV pb s.next,bv,cv,nv] 64:=(hg.block pb h2.px.blk.lt (fun e=>by
  rcases az h2.px.co h2.px.blk (by decide)with e'|e'
  ·rw[e']at e;cases e
  ·exact e' e.symm)).trans h2.px.blk
 have zR:=h2.px.bo.kept hg (dC h2.px.bo h2.px.co (by decide))
 have hno:=h2.px.no.kept hg (dC h2.px.no h2.px.co (by decide))
 have hu2:NU none w5 (w5.setCell ⟨pb,2,none⟩ (.slice (some ⟨g5,0,none⟩) (cl.length+1) c)):=Px.jT (B:=B) _ hbk 2 _
 have hsw:((.slice none 0 0,[])::rowsOf bl s.bs cl s.cs:List Lr).Perm (rowsOf bl s.bs (uA ng::cl) (⟨ng,0,zN,[]⟩::s.cs)):=(List.perm_middle).symm
 have hm:∀{w':World}k,Dd B w' (rowsOf bl s.bs cl s.cs) k→Dd B w' (rowsOf bl s.bs (uA ng::cl) (⟨ng,0,zN,[]⟩::s.cs)) k:=fun k hk=>gu hsw k (tq k hk)
 refine⟨⟨⟨by have:=hbk.set 2 (.slice (some ⟨g5,0,none⟩) (cl.length+1) c);simpa using this,h.px.pB,zR.kept (ay _ _ _ _) (az zR hbk (by decide)),?_,hno.kept (ay _ _ _ _) (az hno hbk (by decide)),(h2.px.gh.grown hg fun k e=>oh h2.px.co (by decide) e).grown (ay _ _ _ _) fun k e=>by cases e;exact lS hbk (by decide)⟩,h.br,?_,((((h2.rows.nu hu1).nu hu2).Ch).perm hsw),by have:=h.lb;omega,by have:=h.lc;simp;omega,by have:=h.ln;simp only;omega,fun r hr=>?_⟩,⟨hbk.cell 2 rfl,hbk.frozen 2,hbk.frozen 0,hbk.cell 0 rfl⟩,?_⟩
 ·have e:dm c11 cl.reverse++c11 (uA ng)=dm c11 (uA ng::cl).reverse:=by rw[List.reverse_cons,eY];simp[dm]
  rw[e]at h5
  exact h5.kept (ay _ _ _ _) (az h5 hbk (by decide))
 ·exact .cons _ _ _ _ rfl rfl (show dQ 0 from ai 0 (by decide)) (iH ⟨ai _ (by decide),ai _ (by decide),ai _ (by decide),ai _ (by decide)⟩ (by decide)) (h2.cx.imp fun t u f=>((f.nu hu1).nu hu2).mono hm)
 ·rcases List.mem_cons.1 (hsw.mem_iff.2 hr)with rfl|hr
  ·exact Nat.zero_le _
  ·have:=h.lr r hr;omega
 ·have fF:B≤w.heap.size:=Nat.le_trans h.px.pB (Nat.le_of_lt h.px.blk.lt)
  exact((ae hA fF).trans (Below.aF hg (by have:=hA.size;omega) fun k e=>(h.px.co.lt k e).1)).setCell (by exact h.px.pB) _
theorem nz{KK B:Nat}{w:World}{pb s b bl cl bv cv nv}(t:Tk)(h:Sx KK B w pb s (b::bl) cl bv cv nv)(hKb:KK≤100000):
  Calls Tryz.prog 31 #[.pointer (some ⟨pb,0,none⟩),oO t] w fun e w'=>Ok (KK+1) B pb w (aD s t) e w':=by
 obtain⟨i0,hi,hz0,hz1,hz2⟩:=info_parts infoCls
 have fF:=h.base
 have hcl:=h.px.co
 obtain⟨ca,cc,hcv⟩:=cZ hcl
 have hlc:=h.lc
 obtain⟨n,hn⟩:∃n,cl.length=n:=⟨_,rfl⟩
 have hpb:=h.px.blk.lt
 obtain⟨tk,tm,ta,tb,tn,tg,ts,te⟩:=t
 unfold oO
 simp only
 have B1:Below w.heap.size w (w.alloc (.cells #[.int .i64 tk,.int .i64 tm,.int .i64 ta,.int .i64 tb,.string (BA tn),.bool tg,.int .i64 ts,.int .i64 te] 66)):=(Below.refl _ w).alloc (Nat.le_refl _) _
 have TB:Bk (w.alloc (.cells #[.int .i64 tk,.int .i64 tm,.int .i64 ta,.int .i64 tb,.string (BA tn),.bool tg,.int .i64 ts,.int .i64 te] 66)) w.heap.size #[.int .i64 tk,.int .i64 tm,.int .i64 ta,.int .i64 tb,.string (BA tn),.bool tg,.int .i64 ts,.int .i64 te] 66:=Bk.new w _ _
 obtain⟨w1,hw1⟩:∃w1,w.alloc (.cells #[.int .i64 tk,.int .i64 tm,.int .i64 ta,.int .i64 tb,.string (BA tn),.bool tg,.int .i64 ts,.int .i64 te] 66)=w1:=⟨_,rfl⟩
 have HW1:=hd25 hw1
 rw[hw1]at B1 TB
 have CD:=(h.below B1).depth hKb
 have eZ:=hd25 TB
 have HB1:Hid (Below w.heap.size w w1):=B1
 have HH:Hid (Sx KK B w pb s (b::bl) cl bv cv nv):=h
 have HN:Hid (cl.length=n):=hn
 have HCV:Hid (cv=.slice ca n cc):=hn▸hcv
 have HST:Hid (aD s ⟨tk,tm,ta,tb,tn,tg,ts,te⟩=if s.depth=50 then .error 153 else .ok ⟨1,s.bs,⟨tg,0,zN,[]⟩::s.cs,s.nm⟩):=rfl
 have HX:Hid (∀w',Below w.heap.size w w'→w'.cell? ⟨pb,2,none⟩=some cv):=fun w' hb=>(h.px.blk.keep hb hpb).cell 2 rfl
 have HOW:Hid (∀w',Below w.heap.size w w'→w'.ownsRow B 86 11 (.slice ca n cc) n (dm c11 cl.reverse)):=fun w' hb=>by have:=rng.own_below' h.px.co hb;rw[hn,hcv,hn]at this;exact this
 have hs1:w1.heap.size=w.heap.size+1:=by rw[←hw1];simp
 obtain⟨D,hD⟩:∃D,s.depth=D:=⟨_,rfl⟩
 have HD:Hid (s.depth=D):=hD
 rw[hD]at CD
 generalize BA tn=X at*
 clear hw1 B1 TB h hcl hcv hn hD
 go_enter Tryz.func31,Tryz.ntmps31
 go_upto_region 1 with fail
 rw[HW1.out]
 go_wp2_with fail
 refine CD.mono ?_
 rintro e w2⟨rfl,hb2⟩
 have HB2:Hid (Below w.heap.size w w2):=HB1.out.trans (ae hb2 (by omega))
 have hs2:=hb2.size
 have qZ:=eZ.out.on hb2
 clear hb2 CD
 by_cases h50:D=50
 ·subst h50
  have HF:Hid (Ok (KK+1) B pb w (aD s ⟨tk,tm,ta,tb,tn,tg,ts,te⟩) (.returned (.int .i64 153)) w2):=⟨ae HB2.out fF,.inl ⟨153,by rw[HST.out,if_pos HD.out],rfl,(HH.out.below HB2.out).px.gh⟩⟩
  clear qZ HH HX HOW HST
  go_wp2
  go_ret
  exact HF.out
 ·have hD0:(((D:Nat):Int)==50)=false:=by simp;omega
  have c5:=qZ.cell 5 (u:=.bool tg) rfl
  have x2:=HX.out w2 HB2.out
  rw[HCV.out]at x2
  have BW:Below w2.heap.size w2 (w2.drew.alloc (.cells #[.bool tg,.int .i64 0,.int .i64 0,.int .i64 0,.int .i64 0,.int .i64 0,.bool false,.string ⟨#[]⟩,.slice none 0 0,.slice none 0 0,.slice none 0 0] 86)):=((Below.refl _ w2).drew).alloc (Nat.le_refl _) _
  have jd:Hid (Below w.heap.size w (w2.drew.alloc (.cells #[.bool tg,.int .i64 0,.int .i64 0,.int .i64 0,.int .i64 0,.int .i64 0,.bool false,.string ⟨#[]⟩,.slice none 0 0,.slice none 0 0,.slice none 0 0] 86))):=HB2.out.trans (ae BW (by omega))
  have x2':=HX.out _ jd.out
  rw[HCV.out]at x2'
  have c5':=(qZ.on BW).cell 5 (u:=.bool tg) rfl
  have HTB':Hid (Bk (w2.drew.alloc (.cells #[.bool tg,.int .i64 0,.int .i64 0,.int .i64 0,.int .i64 0,.int .i64 0,.bool false,.string ⟨#[]⟩,.slice none 0 0,.slice none 0 0,.slice none 0 0] 86)) w.heap.size #[.int .i64 tk,.int .i64 tm,.int .i64 ta,.int .i64 tb,.string X,.bool tg,.int .i64 ts,.int .i64 te] 66):=qZ.on BW
  have yB:Hid (∀(j:Nat)u,(c11 (uA tg))[j]?=some u→(w2.drew.alloc (.cells #[.bool tg,.int .i64 0,.int .i64 0,.int .i64 0,.int .i64 0,.int .i64 0,.bool false,.string ⟨#[]⟩,.slice none 0 0,.slice none 0 0,.slice none 0 0] 86)).cell? ((⟨w2.heap.size,0,none⟩:Addr).add j)=some u):=fun j u hj=>by
   have b4:Bk (w2.drew.alloc (.cells #[.bool tg,.int .i64 0,.int .i64 0,.int .i64 0,.int .i64 0,.int .i64 0,.bool false,.string ⟨#[]⟩,.slice none 0 0,.slice none 0 0,.slice none 0 0] 86)) w2.heap.size #[.bool tg,.int .i64 0,.int .i64 0,.int .i64 0,.int .i64 0,.int .i64 0,.bool false,.string ⟨#[]⟩,.slice none 0 0,.slice none 0 0,.slice none 0 0] 86:=Bk.new w2.drew _ _
   rw[Addr.add_lit]
   have:=b4.cell j (u:=u) (by simpa[c11,uA,z0]using hj)
   simpa using this
  have wI:Hid (n+1≤maxLen):=by have:=HN.out;unfold Hid maxLen;omega
  have wF:Hid ((n+1)*144≤140737488355328):=by have:=HN.out;unfold Hid;omega
  have Iy:Hid (B≤w2.heap.size):=Nat.le_trans fF HB2.out.size
  clear BW qZ
  go_upto_region 3 with fail
  refine UK.begin 12 (fun w'=>w'.cell? ⟨pb,2,none⟩=some (.slice ca n cc)∧w'.cell? ⟨w.heap.size,5,none⟩=some (.bool tg)) (by kernel_rfl) ⟨x2,c5⟩ (fun hHeld=>?_)
  iterate 8
   refine UK.take (v:=?_) rfl (by kernel_rfl) (fun _ _ _ h=>h) (by rfl) ?_ (by assumption) ?_
   rotate_left
   ·(intro w' hSw;(try dsimp only at hSw);go_simp;try with_reducible rfl)
   try simp only[Act.put,lin.sm]
  refine UK.one (by kernel_rfl) rfl (fun K hK=>?_)
  go_simp
  refine hK.out _ _ ?_ (fun hHeld=>?_)
  ·exact⟨x2',c5'⟩
  clear hK K
  try simp only[Act.put,lin.sm]
  refine UK.one (by kernel_rfl) rfl (fun K hK=>?_)
  refine step_append_lies _ rfl _ _ 61 rfl B 86 i0 (.agg #[.bool false,.int .i64 0,.int .i64 0,.int .i64 0,.int .i64 0,.int .i64 0,.bool false,.string ⟨#[]⟩,.slice none 0 0,.slice none 0 0,.slice none 0 0]) 11 144 Tryz.underlying61 hi hz0 hz1 hz2 rfl (by decide) (.slice ca n cc) n (dm c11 cl.reverse) (by simp[Act.eval,Act.put]) (HOW.out _ jd.out) ⟨w2.heap.size,0,none⟩ 1 1 (c11 (uA tg)) (by simp[Act.eval,Act.put]) rfl yB.out (by intro u hu;simp only[c11,uA,z0,List.mem_cons,List.mem_nil_iff,or_false]at hu;rcases hu with rfl|rfl|rfl|rfl|rfl|rfl|rfl|rfl|rfl|rfl|rfl<;>rfl) (by decide) wI.out wF.out (by simp;exact Nat.le_succ_of_le Iy.out) _ rfl ?_
  intro g5 cq w5 hown5 bQ kU Ct
  obtain⟨hS,⟨q2,r2,r0,q0⟩,hbl⟩:=HH.out.BS (g5:=g5) (c:=cq) (ng:=tg) jd.out (by rw[HN.out];exact hown5) (by rw[HCV.out];exact bQ)
  rw[HCV.out]at q2
  rw[HN.out]at hS hbl
  have k5:w5.cell? ⟨w.heap.size,5,none⟩=some (.bool tg):=(World.cell?_of_block (a:=⟨w.heap.size,5,none⟩) (bQ.block w.heap.size HTB'.out.lt (fun e=>by have:=(HH.out.px.co.lt w.heap.size (by rw[HCV.out];exact e.symm)).2;omega))).trans c5'
  have HF:Hid (Ok (KK+1) B pb w (aD s ⟨tk,tm,ta,tb,tn,tg,ts,te⟩) (.returned (.int .i64 0)) ((w5.setCell ⟨pb,2,none⟩ (.slice (some ⟨g5,0,none⟩) (n+1) cq)).setCell ⟨pb,0,none⟩ (nextV pb 1))):=⟨hbl.setCell (by exact HH.out.px.pB) _,.inr ⟨_,by rw[HST.out,if_neg (by rw[HD.out];exact h50)],rfl,_,_,_,_,_,hS.next 1⟩⟩
  clear hown5 bQ kU hS hbl
  refine hK.out _ _ ⟨q2,k5⟩ (fun hHeld=>?_)
  clear hK K
  try simp only[Act.put,lin.sm]
  refine UK.one (by kernel_rfl) rfl (fun K hK=>?_)
  go_simp
  refine hK.out _ _ ?_ (fun hHeld=>?_)
  ·exact hHeld
  clear hK K
  try simp only[Act.put,lin.sm]
  refine UK.take (v:=?_) rfl (by kernel_rfl) (fun _ _ _ h=>h) (by rfl) ?_ (by assumption) ?_
  rotate_left
  ·(intro w' hSw;(try dsimp only at hSw);go_simp;try with_reducible rfl)
  try simp only[Act.put,lin.sm]
  refine UK.last (by kernel_rfl) rfl (fun K hK=>?_)
  go_simp
  refine hK.out _ _ ?_
  clear hK K
  try simp only[Act.put,lin.sm]
  have hHeld:=True.intro
  refine lin.UH.fin (by kernel_rfl) ?_
  have a0:(w5.setCell ⟨pb,2,none⟩ (.slice (some ⟨g5,0,none⟩) (n+1) cq)).cell? ⟨pb,0,none⟩=some (nextV pb s.next):=(World.cell?_setCell_other _ _ _ _ (by simp)).trans q0
  have b0:(w5.setCell ⟨pb,2,none⟩ (.slice (some ⟨g5,0,none⟩) (n+1) cq)).frozen? ⟨pb,0,none⟩=false:=by simpa using r0
  generalize w5.setCell ⟨pb,2,none⟩ (.slice (some ⟨g5,0,none⟩) (n+1) cq)=w6 at*
  clear hHeld q2 r2 r0 q0 k5
  go_wp2
  go_ret
  exact HF.out
end Go.Proofs.YtgbkolonhddolaaGreatDoor.prs
namespace Go.Proofs.YtgbkolonhddolaaGreatDoor.prs
open Go.RowKit nod tok
open rng(R RV info_parts)
open lin(BA)
/--A row without its last element. -/
theorem Eg{α:Type}{f:α→List Value}{z:Nat}(hz:∀x,(f x).length=z){w:World}{t:TypeId}{B g n cap:Nat}{l:List α}{x:α}(h:w.ownsRow B t z (.slice (some ⟨g,0,none⟩) (n+1) cap) (n+1) (dm f (l++[x])))(hl:l.length=n):w.ownsRow B t z (.slice (some ⟨g,0,none⟩) n cap) n (dm f l):=by
 refine⟨by rw[eX hz,hl],?_⟩
 rcases h.2 with⟨e,h0⟩|⟨g1,c1,Lj,e,hg,hgg,h1,h2,h3,h4⟩
 ·omega
 ·simp only[Value.slice.injEq,Option.some.injEq,Addr.mk.injEq,and_true,true_and]at e
  obtain⟨rfl,rfl⟩:=e
  refine .inr ⟨g,cap,Lj,rfl,hg,hgg,by omega,h2,h3,?_⟩
  have h5:Lj.toList.take (n*z)=(Lj.toList.take ((n+1)*z)).take (n*z):=by rw[List.take_take];congr 1;have:=Nat.mul_le_mul_right z (Nat.le_succ n);simp only[Nat.succ_eq_add_one]at this;omega
  rw[h5,h4,eY,List.take_left' (by rw[eX hz,hl])]
variable[gh:Gh]
/--The innermost class is taken off. -/
theorem Sx.F9{K B:Nat}{w:World}{pb nx bs d cs' nm bl q cl bv nv}{g cap:Nat}(h:Sx K B w pb ⟨nx,bs,d::cs',nm⟩ bl (q::cl) bv (.slice (some ⟨g,0,none⟩) (cl.length+1) cap) nv):
  Sx K B (w.setCell ⟨pb,2,none⟩ (.slice (some ⟨g,0,none⟩) cl.length cap)) pb ⟨nx,bs,cs',nm⟩ bl cl bv (.slice (some ⟨g,0,none⟩) cl.length cap) nv∧
  ∀t u,Fz (Dd B w (rowsB bl bs++rowsC cl cs')) w t u→Fz (Dd B (w.setCell ⟨pb,2,none⟩ (.slice (some ⟨g,0,none⟩) cl.length cap)) (rowsOf bl bs cl cs')) (w.setCell ⟨pb,2,none⟩ (.slice (some ⟨g,0,none⟩) cl.length cap)) t u:=by
 have hu:=Px.jT (B:=B) _ h.px.blk 2 (.slice (some ⟨g,0,none⟩) cl.length cap)
 have hco:=h.px.co
 rw[List.length_cons,List.reverse_cons]at hco
 have hc2:=Eg xL hco (by rw[List.length_reverse])
 have hsw:(rowsOf bl bs (q::cl) (d::cs')).Perm ((.slice q.mem.1 q.mem.2.1 q.mem.2.2,d.mem)::(rowsB bl bs++rowsC cl cs')):=List.perm_middle
 have hm:∀k,Dd B w (rowsOf bl bs (q::cl) (d::cs')) k→Dd B w (rowsOf bl bs cl cs') k:=fun k hk=>jk k (gu hsw k hk)
 refine⟨⟨⟨by have:=h.px.blk.set 2 (.slice (some ⟨g,0,none⟩) cl.length cap);simpa using this,h.px.pB,h.px.bo.kept (ay _ _ _ _) (az h.px.bo h.px.blk (by decide)),hc2.kept (ay _ _ _ _) (az hc2 h.px.blk (by decide)),h.px.no.kept (ay _ _ _ _) (az h.px.no h.px.blk (by decide)),h.px.gh.grown (ay _ _ _ _) fun k e=>by cases e;exact lS h.px.blk (by decide)⟩,h.br,?_,((h.rows.perm hsw).tail).nu hu,h.lb,by have:=h.lc;simp only[List.length_cons]at this;omega,h.ln,fun r hr=>h.lr r (hsw.mem_iff.2 (List.mem_cons_of_mem _ hr))⟩,fun t u f=>f.nu hu⟩
 have hcx:=h.cx
 cases hcx with
 |cons _ _ _ _ e1 e2 hi e3 hr=>exact hr.imp fun t u f=>(f.mono hm).nu hu
theorem tu{KK B:Nat}{w:World}{pb nx d0 bs' d cs' nm b bl q cl bv cv nv}(h:Sx KK B w pb ⟨nx,d0::bs',d::cs',nm⟩ (b::bl) (q::cl) bv cv nv)(hKb:KK≤100000):
  Calls Tryz.prog 80 #[.pointer (some ⟨pb,0,none⟩)] w fun e w'=>e=.returned (.tuple #[])∧Below B w w'∧∃s',endS ⟨nx,d0::bs',d::cs',nm⟩=.ok s'∧∃bl cl bv cv nv,Sx (KK+1) B w' pb s' bl cl bv cv nv:=by
 have fF:=h.base
 obtain⟨g,cap,rfl,hBg,hgl,hcap,_,hcell,hfro⟩:=h.px.class
 obtain⟨bg,bcap,rfl,_,_,_,_,_,_⟩:=h.px.body
 have hlc:=h.lc
 have hlb:=h.lb
 simp only[List.length_cons]at hlc hlb
 have hpb:=h.px.blk.lt
 have Eu:=h.px.pB
 have CC:=iO w pb g _ _ nv cl.length cap h.px.blk (by omega)
 have hsw:(rowsOf (b::bl) (d0::bs') (q::cl) (d::cs')).Perm ((.slice q.mem.1 q.mem.2.1 q.mem.2.2,d.mem)::(rowsB (b::bl) (d0::bs')++rowsC cl cs')):=List.perm_middle
 have hcx:=h.cx
 have CN:∀w1,Below w.heap.size w w1→Calls Tryz.prog 107 #[.pointer (some ⟨g,cl.length*11,none⟩)] w1 fun e w'=>∃y:Nv,e=.returned (a8 y)∧Below w1.heap.size w1 w'∧Fz (Dd B w' (rowsB (b::bl) (d0::bs')++rowsC cl cs')) w' d.node (a8 y):=fun w1 hb=>by
  cases hcx with
  |cons _ _ _ _ e1 e2 hi' e3 hr=>
   exact Gl (B:=B) (fun j u hu=>(hb.cell (p:=⟨g,_,none⟩) hgl).trans (hcell j u hu)) e1 e2 hi' (Nat.le_trans fF hb.size) ((e3.mono fun k hk=>gu hsw k hk).nu (NU.of_below hb)) ((h.rows.perm hsw).nu (NU.of_below hb))
 have HH:=hd25 h
 clear h hcell hfro hcx hsw
 go_enter Tryz.func80,Tryz.ntmps80
 go_wp2_with fail
 refine CC.mono ?_
 rintro e w1⟨rfl,hb1⟩
 clear CC
 go_wp2_with fail
 refine(CN w1 hb1).mono ?_
 rintro e w2⟨⟨yk,ym,ya,yb,yg,yn,fB,fw,fA⟩,rfl,hb2,hy⟩
 simp only[a8]
 clear CN
 have B2:Below w.heap.size w w2:=hb1.trans (ae hb2 hb1.size)
 have B3:Below w2.heap.size w2 (w2.alloc (.cells #[.int .i64 yk,.int .i64 ym,.int .i64 ya,.int .i64 yb,.bool yg,.string yn,.slice none 0 0,.slice fB fw fA] 26)):=(Below.refl _ w2).alloc (Nat.le_refl _) _
 have YB:Bk (w2.alloc (.cells #[.int .i64 yk,.int .i64 ym,.int .i64 ya,.int .i64 yb,.bool yg,.string yn,.slice none 0 0,.slice fB fw fA] 26)) w2.heap.size #[.int .i64 yk,.int .i64 ym,.int .i64 ya,.int .i64 yb,.bool yg,.string yn,.slice none 0 0,.slice fB fw fA] 26:=Bk.new w2 _ _
 have HY3:=hy.nu (NU.of_below B3)
 obtain⟨w3,hw3⟩:∃w3,w2.alloc (.cells #[.int .i64 yk,.int .i64 ym,.int .i64 ya,.int .i64 yb,.bool yg,.string yn,.slice none 0 0,.slice fB fw fA] 26)=w3:=⟨_,rfl⟩
 have HW3:=hd25 hw3
 have hz3:w3.heap.size=w2.heap.size+1:=by rw[←hw3];simp
 rw[hw3]at B3 YB HY3
 have mZ:Below w.heap.size w w3:=B2.trans (ae B3 B2.size)
 obtain⟨p,hp⟩:∃p,w2.heap.size=p:=⟨_,rfl⟩
 have HP:Hid (w2.heap.size=p):=hp
 have hs2:=B2.size
 rw[hp]at YB hz3 hs2
 have HB3:Hid (Below w.heap.size w w3):=mZ
 have HYB:=hd25 YB
 have HYF:=hd25 HY3
 clear hb1 hb2 hy B2 B3 YB HY3 hw3 hp mZ
 go_upto_region 1 with fail
 rw[HP.out,HW3.out]
 obtain⟨L,hL⟩:∃L,cl.length=L:=⟨_,rfl⟩
 have HL:Hid (cl.length=L):=hL
 have hp3:=HH.out.below HB3.out
 have x2:=hp3.px.blk.cell 2 (u:=.slice (some ⟨g,0,none⟩) (cl.length+1) cap) rfl
 have f2:=hp3.px.blk.frozen 2
 have hD3:Below w3.heap.size w3 w3.drew:=(Below.refl _ w3).drew
 have AX:=(hp3.below hD3).F9
 rw[hL]at x2 hcap AX
 have HPO:Hid (_∧_):=AX
 have e1:IntKind.i64.wrap ((L:Int))=L:=wrap64 _ (by omega) (by omega)
 have e2:(L:Int)≤(cap:Int):=by omega
 have e3:(0:Int)≤(L:Int):=by omega
 clear hp3 AX
 refine wp_region_noPanic ?_
 refine aZ 14 (fun w'=>w'.cell? ⟨pb,2,none⟩=some (.slice (some ⟨g,0,none⟩) (L+1) cap)) (by kernel_rfl) x2 (fun hHeld=>?_)
 refine gH 0 (v:=?_) rfl (by kernel_rfl) (fun _ _ _ h=>h) (by rfl) ?_ (by assumption) ?_
 rotate_left
 ·(intro w' hSw;(try dsimp only at hSw);go_simp;try with_reducible rfl)
 try simp only[Act.put,lin.sm]
 refine gH 1 (v:=?_) rfl (by kernel_rfl) (fun _ _ _ h=>h) (by rfl) ?_ (by assumption) ?_
 rotate_left
 ·(intro w' hSw;(try dsimp only at hSw);go_simp;try with_reducible rfl)
 try simp only[Act.put,lin.sm]
 refine gH 2 (v:=?_) rfl (by kernel_rfl) (fun _ _ _ h=>h) (by rfl) ?_ (by assumption) ?_
 rotate_left
 ·(intro w' hSw;(try dsimp only at hSw);go_simp;try with_reducible rfl)
 try simp only[Act.put,lin.sm]
 refine gH 3 (v:=?_) rfl (by kernel_rfl) (fun _ _ _ h=>h) (by rfl) ?_ (by assumption) ?_
 rotate_left
 ·(intro w' hSw;(try dsimp only at hSw);go_simp;try with_reducible rfl)
 try simp only[Act.put,lin.sm]
 refine gH 4 (v:=?_) rfl (by kernel_rfl) (fun _ _ _ h=>h) (by rfl) ?_ (by assumption) ?_
 rotate_left
 ·(intro w' hSw;(try dsimp only at hSw);go_simp;try with_reducible rfl)
 try simp only[Act.put,lin.sm]
 refine gH 5 (v:=?_) rfl (by kernel_rfl) (fun _ _ _ h=>h) (by rfl) ?_ (by assumption) ?_
 rotate_left
 ·(intro w' hSw;(try dsimp only at hSw);go_simp;try with_reducible rfl)
 try simp only[Act.put,lin.sm]
 refine gH 6 (v:=?_) rfl (by kernel_rfl) (fun _ _ _ h=>h) (by rfl) ?_ (by assumption) ?_
 rotate_left
 ·(intro w' hSw;(try dsimp only at hSw);go_simp;try with_reducible rfl)
 try simp only[Act.put,lin.sm]
 refine gH 7 (v:=?_) rfl (by kernel_rfl) (fun _ _ _ h=>h) (by rfl) ?_ (by assumption) ?_
 rotate_left
 ·(intro w' hSw;(try dsimp only at hSw);go_simp;try with_reducible rfl)
 try simp only[Act.put,lin.sm]
 refine gH 8 (v:=?_) rfl (by kernel_rfl) (fun _ _ _ h=>h) (by rfl) ?_ (by assumption) ?_
 rotate_left
 ·(intro w' hSw;(try dsimp only at hSw);go_simp;try with_reducible rfl)
 try simp only[Act.put,lin.sm]
 refine gH 9 (v:=?_) rfl (by kernel_rfl) (fun _ _ _ h=>h) (by rfl) ?_ (by assumption) ?_
 rotate_left
 ·(intro w' hSw;(try dsimp only at hSw);go_simp;try with_reducible rfl)
 try simp only[Act.put,lin.sm]
 refine gH 10 (v:=?_) rfl (by kernel_rfl) (fun _ _ _ h=>h) (by rfl) ?_ (by assumption) ?_
 rotate_left
 ·(intro w' hSw;(try dsimp only at hSw);go_simp;try with_reducible rfl)
 try simp only[Act.put,lin.sm]
 refine gH 11 (v:=?_) rfl (by kernel_rfl) (fun _ _ _ h=>h) (by rfl) ?_ (by assumption) ?_
 rotate_left
 ·(intro w' hSw;(try dsimp only at hSw);go_simp;try with_reducible rfl)
 try simp only[Act.put,lin.sm]
 refine aG (j:=12) (by kernel_rfl) (by decide) rfl (fun K hK=>?_)
 go_simp
 refine hK.out _ _ ?_ (fun hHeld=>?_)
 ·exact hHeld
 clear hK K
 try simp only[Act.put,lin.sm]
 refine gH 13 (v:=?_) rfl (by kernel_rfl) (fun _ _ _ h=>h) (by rfl) ?_ (by assumption) ?_
 rotate_left
 ·(intro w' hSw;(try dsimp only at hSw);go_simp;try with_reducible rfl)
 try simp only[Act.put,lin.sm]
 refine aU (by kernel_rfl) rfl (fun K hK=>?_)
 go_simp
 refine hK.out _ _ ?_
 clear hK K
 try simp only[Act.put,lin.sm]
 refine wpAny_of_held (S:=fun _=>True) _ _ _ _ ?_
 have hHeld:=True.intro
 refine wpAnyH_done (by kernel_rfl) ?_ _
 refine NoPanic.normal ?_
 obtain⟨w4,hw4⟩:∃w4,(w3.setCell ⟨pb,2,none⟩ (.slice (some ⟨g,0,none⟩) L cap)).drew=w4:=⟨_,rfl⟩
 have yA:Hid (Sx KK B w4 pb ⟨nx,d0::bs',cs',nm⟩ (b::bl) cl (.slice (some ⟨bg,0,none⟩) (bl.length+1) bcap) (.slice (some ⟨g,0,none⟩) L cap) nv):=by rw[←hw4];exact HPO.out.1
 have HY4:Hid (Fz (Dd B w4 (rowsOf (b::bl) (d0::bs') cl cs')) w4 d.node (a8 ⟨yk,ym,ya,yb,yg,yn,fB,fw,fA⟩)):=by rw[←hw4];exact HPO.out.2 _ _ (HYF.out.nu (NU.of_below hD3))
 have uO:Hid (Below B w w4):=by rw[←hw4];exact((ae HB3.out fF).setCell (by exact Eu) _).drew
 have mU:Hid (Bk w4 p #[.int .i64 yk,.int .i64 ym,.int .i64 ya,.int .i64 yb,.bool yg,.string yn,.slice none 0 0,.slice fB fw fA] 26):=by rw[←hw4];exact(HYB.out.apart (by omega) _).on (Below.refl _ _).drew
 have x2:=yA.out.px.blk.cell 2 (u:=.slice (some ⟨g,0,none⟩) L cap) rfl
 have l0:=mU.out.cell 0 (u:=.int .i64 yk) rfl
 have l1:=mU.out.cell 1 (u:=.int .i64 ym) rfl
 have l2:=mU.out.cell 2 (u:=.int .i64 ya) rfl
 have l3:=mU.out.cell 3 (u:=.int .i64 yb) rfl
 have l4:=mU.out.cell 4 (u:=.bool yg) rfl
 have l5:=mU.out.cell 5 (u:=.string yn) rfl
 have l6:=mU.out.cell 6 (u:=.slice none 0 0) rfl
 have l7:=mU.out.cell 7 (u:=.slice fB fw fA) rfl
 have HBs4:B≤w4.heap.size:=Nat.le_trans fF uO.out.size
 rw[hw4]
 clear hw4 HYB HYF HPO HH hHeld f2 hD3
 have nP:Hid (∀w',Below w4.heap.size w4 w'→Calls Tryz.prog 17 #[.pointer (some ⟨pb,0,none⟩)] w' fun e w''=>e=.returned (.pointer (some ⟨bg,bl.length*10,none⟩))∧Below w'.heap.size w' w''):=fun w' hb=>oJ w' pb bg _ _ nv bl.length bcap (yA.out.below hb).px.blk (by omega)
 have HM:Hid (∀w',Below w4.heap.size w4 w'→w'.cell? ⟨p,0,none⟩=some (.int .i64 yk)∧w'.cell? ⟨p,1,none⟩=some (.int .i64 ym)∧w'.cell? ⟨p,2,none⟩=some (.int .i64 ya)∧w'.cell? ⟨p,3,none⟩=some (.int .i64 yb)∧w'.cell? ⟨p,4,none⟩=some (.bool yg)∧w'.cell? ⟨p,5,none⟩=some (.string yn)∧w'.cell? ⟨p,6,none⟩=some (.slice none 0 0)∧w'.cell? ⟨p,7,none⟩=some (.slice fB fw fA)):=fun w' hb=>⟨(mU.out.on hb).cell 0 rfl,(mU.out.on hb).cell 1 rfl,(mU.out.on hb).cell 2 rfl,(mU.out.on hb).cell 3 rfl,(mU.out.on hb).cell 4 rfl,(mU.out.on hb).cell 5 rfl,(mU.out.on hb).cell 6 rfl,(mU.out.on hb).cell 7 rfl⟩
 cases cl with
 |nil=>
  obtain rfl:L=0:=HL.out.symm
  obtain rfl:cs'=[]:=by have:=yA.out.cx.len;simp at this;exact List.length_eq_zero_iff.1 this.symm
  go_upto_region 3 with fail
  refine wp_region_noPanic ?_
  refine aZ 3 (fun w'=>w'.cell? ⟨p,0,none⟩=some (.int .i64 yk)∧w'.cell? ⟨p,1,none⟩=some (.int .i64 ym)∧w'.cell? ⟨p,2,none⟩=some (.int .i64 ya)∧w'.cell? ⟨p,3,none⟩=some (.int .i64 yb)∧w'.cell? ⟨p,4,none⟩=some (.bool yg)∧w'.cell? ⟨p,5,none⟩=some (.string yn)∧w'.cell? ⟨p,6,none⟩=some (.slice none 0 0)∧w'.cell? ⟨p,7,none⟩=some (.slice fB fw fA)) (by kernel_rfl) ⟨l0,l1,l2,l3,l4,l5,l6,l7⟩ (fun hHeld=>?_)
  refine gH 2 (v:=?_) rfl (by kernel_rfl) (fun _ _ _ h=>h) (by rfl) ?_ (by assumption) ?_
  rotate_left
  ·(intro w' hSw;(try dsimp only at hSw);go_simp;try with_reducible rfl)
  try simp only[Act.put,lin.sm]
  refine aG (j:=0) (by kernel_rfl) (by decide) rfl (fun K hK=>?_)
  go_simp
  refine hK.out _ _ ?_ (fun hHeld=>?_)
  ·exact hHeld
  clear hK K
  try simp only[Act.put,lin.sm]
  refine aG (j:=1) (by kernel_rfl) (by decide) rfl (fun K hK=>?_)
  go_simp
  refine(nP.out w4.drew (Below.refl _ _).drew).mono ?_
  rintro e w5⟨rfl,hb5⟩
  have xY:Hid (Below w4.heap.size w4 w5):=((Below.refl _ w4).drew).trans hb5
  clear hb5
  refine hK.out _ _ (HM.out _ xY.out) (fun hHeld=>?_)
  clear hK K
  try simp only[Act.put,lin.sm]
  have jX:=EH yk ym ya yb yg yn fB fw fA (yA.out.below xY.out) (HY4.out.nu (NU.of_below xY.out)) hKb
  refine aU (by kernel_rfl) rfl (fun K hK=>?_)
  go_simp
  refine jX.mono ?_
  rintro e w6⟨rfl,hb6,s6,G6⟩
  have ES:Hid (Below B w w6):=(uO.out.trans (ae xY.out HBs4)).trans hb6
  have nO:Hid (Sx (KK+1) B w6 pb _ _ _ _ _ _):=G6
  clear jX hb6 G6
  refine hK.out _ _ ?_
  clear hK K
  try simp only[Act.put,lin.sm]
  refine wpAny_of_held (S:=fun _=>True) _ _ _ _ ?_
  have hHeld:=True.intro
  refine wpAnyH_done (by kernel_rfl) ?_ _
  refine NoPanic.normal ?_
  have x0:=nO.out.px.blk.cell 0 rfl
  have f0:=nO.out.px.blk.frozen 0
  clear hHeld
  go_wp2
  refine bodyPost_ret (results_none Tryz.results80 _ _ _) rfl ?_
  exact⟨rfl,ES.out.setCell (by exact Eu) _,_,rfl,_,_,_,_,_,nO.out.next 0⟩
 |cons q2 cl2=>
  obtain⟨d2,cs2,rfl⟩:∃d2 cs2,cs'=d2::cs2:=by
   have:=yA.out.cx.len
   cases cs' with
   |nil=>simp at this
   |cons d2 cs2=>exact⟨d2,cs2,rfl⟩
  obtain rfl:L=cl2.length+1:=HL.out.symm
  have hL0:(((cl2.length:Nat):Int)+1==0)=false:=by simp;omega
  have IU:Hid (∀w',Below w4.heap.size w4 w'→Calls Tryz.prog 64 #[.pointer (some ⟨pb,0,none⟩)] w' fun e w''=>e=.returned (.pointer (some ⟨g,cl2.length*11,none⟩))∧Below w'.heap.size w' w''):=fun w' hb=>iO w' pb g _ _ nv cl2.length cap (yA.out.below hb).px.blk (by omega)
  go_upto_region 5 with fail
  refine wp_region_noPanic ?_
  refine aZ 3 (fun w'=>w'.cell? ⟨p,0,none⟩=some (.int .i64 yk)∧w'.cell? ⟨p,1,none⟩=some (.int .i64 ym)∧w'.cell? ⟨p,2,none⟩=some (.int .i64 ya)∧w'.cell? ⟨p,3,none⟩=some (.int .i64 yb)∧w'.cell? ⟨p,4,none⟩=some (.bool yg)∧w'.cell? ⟨p,5,none⟩=some (.string yn)∧w'.cell? ⟨p,6,none⟩=some (.slice none 0 0)∧w'.cell? ⟨p,7,none⟩=some (.slice fB fw fA)) (by kernel_rfl) ⟨l0,l1,l2,l3,l4,l5,l6,l7⟩ (fun hHeld=>?_)
  refine gH 2 (v:=?_) rfl (by kernel_rfl) (fun _ _ _ h=>h) (by rfl) ?_ (by assumption) ?_
  rotate_left
  ·(intro w' hSw;(try dsimp only at hSw);go_simp;try with_reducible rfl)
  try simp only[Act.put,lin.sm]
  refine aG (j:=0) (by kernel_rfl) (by decide) rfl (fun K hK=>?_)
  go_simp
  refine hK.out _ _ ?_ (fun hHeld=>?_)
  ·exact hHeld
  clear hK K
  try simp only[Act.put,lin.sm]
  refine aG (j:=1) (by kernel_rfl) (by decide) rfl (fun K hK=>?_)
  go_simp
  refine(IU.out w4.drew (Below.refl _ _).drew).mono ?_
  rintro e w5⟨rfl,hb5⟩
  have xY:Hid (Below w4.heap.size w4 w5):=((Below.refl _ w4).drew).trans hb5
  clear hb5
  refine hK.out _ _ (HM.out _ xY.out) (fun hHeld=>?_)
  clear hK K
  try simp only[Act.put,lin.sm]
  have jX:=LZ yk ym ya yb yg yn fB fw fA (yA.out.below xY.out) (HY4.out.nu (NU.of_below xY.out)) hKb
  refine aU (by kernel_rfl) rfl (fun K hK=>?_)
  go_simp
  refine jX.mono ?_
  rintro e w6⟨rfl,hb6,s6,G6⟩
  have ES:Hid (Below B w w6):=(uO.out.trans (ae xY.out HBs4)).trans hb6
  have nO:Hid (Sx (KK+1) B w6 pb _ _ _ _ _ _):=G6
  clear jX hb6 G6
  refine hK.out _ _ ?_
  clear hK K
  try simp only[Act.put,lin.sm]
  refine wpAny_of_held (S:=fun _=>True) _ _ _ _ ?_
  have hHeld:=True.intro
  refine wpAnyH_done (by kernel_rfl) ?_ _
  refine NoPanic.normal ?_
  have x0:=nO.out.px.blk.cell 0 rfl
  have f0:=nO.out.px.blk.frozen 0
  clear hHeld
  go_wp2
  go_end0
  exact⟨rfl,ES.out.setCell (by exact Eu) _,_,rfl,_,_,_,_,_,nO.out.next 2⟩
end Go.Proofs.YtgbkolonhddolaaGreatDoor.prs
