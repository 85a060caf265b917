import Derived.Test.YtgbkolonhddolaaGreatDoorBpPrs5
set_option linter.unusedSectionVars false
set_option linter.unusedSimpArgs false
set_option linter.unusedVariables false
set_option maxRecDepth 100000
set_option maxHeartbeats 4000000
theorem Go.Proofs.YtgbkolonhddolaaGreatDoor.sM{p:Prop}(h:p):Go.RowKit.Hid p:=h
namespace Go.Proofs.YtgbkolonhddolaaGreatDoor.prs
open Go.RowKit nod tok
open rng(R RV info_parts)
open lin(BA)
theorem Fz.kind{P:Nat→Prop}{w:World}{t:Nd}{x:Nv}(h:Fz P w t (a8 x)):t.kind=x.k∧t.a=x.a∧(dQ x.k∧dQ x.m∧dQ x.a∧dQ x.b):=by
 obtain⟨k,m,a,b,g,n,s,ks,sa,sc,ao,cap,rfl,e,hi,_⟩:=h.nv.open
 simp only[a8,Value.agg.injEq,Array.mk.injEq,List.cons.injEq,Value.int.injEq,and_true,true_and]at e
 obtain⟨rfl,rfl,rfl,rfl,_⟩:=e
 exact⟨rfl,rfl,hi⟩
/--A node whose one kid is v, which has been laid into a block of its own. -/
theorem KW{P:Nat→Prop}{w:World}{t:Nd}{x:Nv}{k m a b:Int}{g:Bool}{n:ByteArray}{q:Nat}(hq:Bk w q #[.int .i64 x.k,.int .i64 x.m,.int .i64 x.a,.int .i64 x.b,.bool x.g,.string x.nm,.slice none 0 0,.slice x.ka x.kn x.kc] 26)(hx:Fz P w t (a8 x))(hP:P q)
  (hi:dQ k∧dQ m∧dQ a∧dQ b)(hn:n.size≤maxLen):Fz P w (.mk k m a b g n [] [t]) (a8 ⟨k,m,a,b,g,n,some ⟨q,0,none⟩,1,1⟩):=
 qW (B:=0) (xs:=[x]) hi hn rfl ⟨rfl,.inr ⟨q,1,_,rfl,Nat.zero_le _,hq,Nat.le_refl _,by decide,rfl,rfl⟩⟩ ⟨rfl,fun i y u h1 h2=>by
  cases i with
  |zero=>simp at h1 h2;subst h1 h2;exact hx
  |succ i=>simp at h1⟩ fun y e=>by cases e;exact hP
variable[gh:Gh]
/--The last part has been put into a repetition: w2 is the world behind that its node was laid in block q. -/
theorem Sx.JC{K B:Nat}{w w2:World}{pb nx d bs' cs nm b bl cl cv nv}{g cap gp n c q:Nat}{l:Nd}{t:Tk}{xs:List Nv}{x:Nv}(h:Sx K B w pb ⟨nx,d::bs',cs,nm⟩ (b::bl) cl (.slice (some ⟨g,0,none⟩) (bl.length+1) cap) cv nv)(ht:tV t)
  (hA:Below w.heap.size w w2)(hq:Bk w2 q #[.int .i64 x.k,.int .i64 x.m,.int .i64 x.a,.int .i64 x.b,.bool x.g,.string x.nm,.slice none 0 0,.slice x.ka x.kn x.kc] 26)(hqw:w.heap.size≤q)
  (hl:d.pts.getLast?=some l)(ho:w.ownsRow B 26 8 (.slice (some ⟨gp,0,none⟩) (n+1) c) (n+1) (bI (xs++[x])))(hrn:RN (Dd B w (rowsOf (b::bl) (d::bs') cl cs)) w xs d.pts.dropLast)(hx:Fz (Dd B w (rowsOf (b::bl) (d::bs') cl cs)) w l (a8 x))(hxl:xs.length=n)(hpt:b.pt=(some ⟨gp,0,none⟩,n+1,c)):
  Sx K B (aC w2 gp (n*8) ⟨8,t.mode,t.a,t.b,false,⟨#[]⟩,some ⟨q,0,none⟩,1,1⟩) pb ⟨nx,⟨d.iJ,d.dH,d.pts.dropLast++[nd 8 t.mode t.a t.b false [] [l]]⟩::bs',cs,nm⟩ (b::bl) cl (.slice (some ⟨g,0,none⟩) (bl.length+1) cap) cv nv∧Below B w (aC w2 gp (n*8) ⟨8,t.mode,t.a,t.b,false,⟨#[]⟩,some ⟨q,0,none⟩,1,1⟩):=by
 have ho2:w2.ownsRow B 26 8 (.slice (some ⟨gp,0,none⟩) (n+1) c) (n+1) (bI (xs++[x])):=rng.own_below' ho hA
 obtain⟨o8,g8⟩:=rW ho2 (o:=n*8) (by rw[hxl]) ⟨8,t.mode,t.a,t.b,false,⟨#[]⟩,some ⟨q,0,none⟩,1,1⟩
 have hN:∀k,some gp=some k→lh w2 k:=fun k e=>by cases e;exact lh.own ho2 rfl
 have hpx:=(h.px.below hA).grown g8 hN
 have hsw:(rowsOf (b::bl) (d::bs') cl cs).Perm ((.slice (some ⟨gp,0,none⟩) (n+1) c,d.pts)::(.slice b.ah.1 b.ah.2.1 b.ah.2.2,d.dH)::rowsOf bl bs' cl cs):=by
  have:(rowsOf (b::bl) (d::bs') cl cs).Perm ((.slice b.pt.1 b.pt.2.1 b.pt.2.2,d.pts)::(.slice b.ah.1 b.ah.2.1 b.ah.2.2,d.dH)::rowsOf bl bs' cl cs):=List.Perm.swap _ _ _
  rwa[hpt]at this
 have hsw':(rowsOf (b::bl) (⟨d.iJ,d.dH,d.pts.dropLast++[nd 8 t.mode t.a t.b false [] [l]]⟩::bs') cl cs).Perm ((.slice (some ⟨gp,0,none⟩) (n+1) c,d.pts.dropLast++[nd 8 t.mode t.a t.b false [] [l]])::(.slice b.ah.1 b.ah.2.1 b.ah.2.2,d.dH)::rowsOf bl bs' cl cs):=by
  have:(rowsOf (b::bl) (⟨d.iJ,d.dH,d.pts.dropLast++[nd 8 t.mode t.a t.b false [] [l]]⟩::bs') cl cs).Perm ((.slice b.pt.1 b.pt.2.1 b.pt.2.2,d.pts.dropLast++[nd 8 t.mode t.a t.b false [] [l]])::(.slice b.ah.1 b.ah.2.1 b.ah.2.2,d.dH)::rowsOf bl bs' cl cs):=List.Perm.swap _ _ _
  rwa[hpt]at this
 have h2:=h.below hA
 have hqN:Dd B w2 (rowsOf (b::bl) (d::bs') cl cs) q:=⟨⟨⟨_,_,hq⟩,by have h1:=h.px.pB;have h2:=h.px.blk.lt;omega⟩,fun r hr e=>by
  obtain⟨ys,h1,_⟩:=h.rows.each r hr
  have:=(h1.lt q e).2
  omega⟩
 have hnd:Fz (Dd B w2 (rowsOf (b::bl) (d::bs') cl cs)) w2 (nd 8 t.mode t.a t.b false [] [l]) (a8 ⟨8,t.mode,t.a,t.b,false,⟨#[]⟩,some ⟨q,0,none⟩,1,1⟩):=
  KW hq (hx.nu (NU.of_below hA)) hqN ⟨ai _ (by decide),ht.m,ht.a,ht.b⟩ (by decide)
 have hlen:(d.pts.dropLast++[nd 8 t.mode t.a t.b false [] [l]]).length=n+1:=by rw[List.length_append,←hrn.1,hxl];rfl
 obtain⟨hrw,hfz⟩:=h2.rows.mH hsw hsw' (NU.aF g8) (.inl rfl) (by rw[hlen];exact o8) ((hrn.imp fun t v f=>f.nu (NU.of_below hA)).snoc hnd)
 have fF:B≤w.heap.size:=by
  obtain⟨g',cap',e,hBg,hgl,_⟩:=h.px.body
  omega
 refine⟨⟨hpx,?_,h2.cx.imp fun t u f=>hfz t u f,hrw,h.lb,h.lc,h.ln,fun r hr=>?_⟩,(ae hA fF).trans (Below.aF g8 (by have:=hA.size;omega) fun k e=>by cases e;exact(ho.lt _ rfl).1)⟩
 ·cases h.br with
  |cons _ _ _ _ e hi hn' hr=>exact .cons _ _ _ _ e hi hn' hr
 ·have hlr:∀q∈rowsOf (b::bl) (d::bs') cl cs,q.2.length≤K:=h.lr
  have hpl:d.pts.length=n+1:=by
   obtain⟨l',e⟩:=List.getLast?_eq_some_iff.1 hl
   have:=hrn.1
   rw[e]at this⊢
   simp at this⊢
   omega
  simp only[rowsOf,rowsB,List.cons_append,List.mem_cons]at hr hlr
  rcases hr with rfl|rfl|hr
  ·exact hlr _ (.inl rfl)
  ·have:=hlr _ (.inr (.inl rfl));simp only at*;omega
  ·exact hlr r (.inr (.inr hr))
theorem eD{K B:Nat}{w:World}{pb nx d bs' cs nm b bl cl cv nv}{g cap:Nat}(t:Tk)(ht:tV t)(h:Sx K B w pb ⟨nx,d::bs',cs,nm⟩ (b::bl) cl (.slice (some ⟨g,0,none⟩) (bl.length+1) cap) cv nv)(hKb:K≤100000):
  Calls Tryz.prog 29 #[.pointer (some ⟨g,bl.length*10,none⟩),oO t] w fun e w'=>Below B w w'∧
   ((∃c,repB t d=.error c∧e=.returned (.int .i64 c)∧je gh w')∨∃d',repB t d=.ok d'∧e=.returned (.int .i64 0)∧Sx K B w' pb ⟨nx,d'::bs',cs,nm⟩ (b::bl) cl (.slice (some ⟨g,0,none⟩) (bl.length+1) cap) cv nv):=by
 obtain⟨g',cap',e,hBg,hgl,_,_,hcell,hfro⟩:=h.px.body
 simp only[Value.slice.injEq,Option.some.injEq,Addr.mk.injEq,and_true,true_and]at e
 obtain⟨rfl,rfl⟩:=e
 have HGH:Hid (∀w',Below w.heap.size w w'→je gh w'):=fun w' hb=>h.px.gh.below hb
 obtain⟨xs,hown,hrn⟩:=h.rows.each (.slice b.pt.1 b.pt.2.1 b.pt.2.2,d.pts) (by simp[rowsOf,rowsB])
 have hlen:=h.lr (.slice b.pt.1 b.pt.2.1 b.pt.2.2,d.pts) (by simp[rowsOf,rowsB])
 simp only at hown hrn hlen
 have x9:=hcell 9 _ rfl
 have fF:B≤w.heap.size:=by omega
 obtain⟨o,ho⟩:∃o,bl.length*10=o:=⟨_,rfl⟩
 rw[ho]at x9⊢
 obtain⟨⟨p0,p1,p2⟩,hpt⟩:∃p,b.pt=p:=⟨_,rfl⟩
 rw[hpt]at hown x9
 dsimp only at hown x9
 obtain rfl:p1=d.pts.length:=by
  rcases hown.2 with⟨e,h0⟩|⟨g1,c1,Lj,e,_⟩
  ·simp only[Value.slice.injEq]at e;omega
  ·simp only[Value.slice.injEq]at e;exact e.2.1
 have hne:g≠w.heap.size:=by omega
 cases hl:d.pts.getLast? with
 |none=>
  have h0:d.pts=[]:=List.getLast?_eq_none_iff.1 hl
  have hrep:repB t d=.error 133:=by unfold repB;rw[hl]
  rw[h0]at x9
  have EL:Hid (repB t d=.error 133):=hrep
  have HB:Hid (Below B w (w.alloc (.cells #[.int .i64 t.kind,.int .i64 t.mode,.int .i64 t.a,.int .i64 t.b,.string (BA t.name),.bool t.neg,.int .i64 t.s,.int .i64 t.e] 66))):=(Below.refl B w).alloc fF _
  have x9':=(((Below.refl _ w).alloc (Nat.le_refl _) (.cells #[.int .i64 t.kind,.int .i64 t.mode,.int .i64 t.a,.int .i64 t.b,.string (BA t.name),.bool t.neg,.int .i64 t.s,.int .i64 t.e] 66)).cell (p:=⟨g,o+9,none⟩) hgl).trans x9
  obtain⟨tk,tm,ta,tb,tn,tg,ts,te⟩:=t
  unfold oO
  simp only at HB EL x9'⊢
  generalize BA tn=X at*
  clear h hown hrn hcell hfro hrep ht
  go_enter Tryz.func29,Tryz.ntmps29
  go_wp2
  go_ret
  exact⟨HB.out,.inl ⟨133,EL.out,rfl,HGH.out _ ((Below.refl _ w).alloc (Nat.le_refl _) _)⟩⟩
 |some l=>
  obtain⟨ys,x,rfl,hyl,hxl,hrl⟩:=hrn.last hl
  obtain⟨m,hm⟩:∃m,ys.length=m:=⟨_,rfl⟩
  rw[hm]at hyl
  rw[←hyl]at hown x9 hlen
  obtain⟨gp,c',e,hBp,sK,_,_⟩:=lD hown (by omega)
  simp only[Value.slice.injEq]at e
  obtain⟨rfl,-,rfl⟩:=e
  have hpt':b.pt=(some ⟨gp,0,none⟩,m+1,p2):=by rw[hpt,hyl]
  obtain⟨hk1,ha1,hi1⟩:=hxl.kind
  have pc:∀j u,(c8 x)[j]?=some u→w.cell? ⟨gp,m*8+j,none⟩=some u:=fun j u hu=>by
   have hj:j<8:=(List.getElem?_eq_some_iff.1 hu).1
   have:=hown.cellAt (m*8+j) (by omega)
   rw[this]
   exact jU (ys++[x]) m j x u (by rw[←hm];simp) hu
  have pf:∀j,w.frozen? ⟨gp,j,none⟩=false:=fun j=>hown.frozenAt j
  have GV:g≠gp:=by rintro rfl;exact bT h.px.bo (by decide) rfl (lh.own hown rfl)
  have Md:Hid (∀w2 q,Below w.heap.size w w2→Bk w2 q #[.int .i64 x.k,.int .i64 x.m,.int .i64 x.a,.int .i64 x.b,.bool x.g,.string x.nm,.slice none 0 0,.slice x.ka x.kn x.kc] 26→w.heap.size≤q→_):=fun w2 q h1 h2 h3=>h.JC ht h1 h2 h3 hl hown hrl hxl hm hpt'
  have hrep:repB t d=if l.kind=8∨l.kind=10∨l.kind=12 then .error 150 else .ok ⟨d.iJ,d.dH,d.pts.dropLast++[nd 8 t.mode t.a t.b false [] [l]]⟩:=by unfold repB;rw[hl]
  have EL:Hid (repB t d=_):=hrep
  have CR:=fT x.k
  obtain⟨xk,xm,xa,xb,xg,xn,ka,kn,kc⟩:=x
  simp only at hk1 CR Md
  rw[hk1]at EL
  have y0:=pc 0 _ rfl
  have y1:=pc 1 _ rfl
  have y2:=pc 2 _ rfl
  have y3:=pc 3 _ rfl
  have y4:=pc 4 _ rfl
  have y5:=pc 5 _ rfl
  have y6:=pc 6 _ rfl
  have y7:=pc 7 _ rfl
  simp only[Nat.add_zero]at y0
  have HPF:Hid (∀j,w.frozen? ⟨gp,j,none⟩=false):=pf
  have e1:IntKind.i64.wrap ((m:Int))=m:=wrap64 _ (by omega) (by omega)
  have e2:(m:Int)<(m:Int)+1:=by omega
  have e3:(0:Int)≤(m:Int):=by omega
  have e4:¬((m:Int)+1=0):=by omega
  have e4':(((m:Int)+1)==0)=false:=by simpa using e4
  have HM:Hid (∀{w1:World}{b:Nat}{i:Nat}{u:Value},Below w.heap.size w w1→b<w.heap.size→w.cell? ⟨b,i,none⟩=some u→w1.cell? ⟨b,i,none⟩=some u):=fun hb hl h=>(hb.cell (p:=⟨_,_,none⟩) hl).trans h
  obtain⟨tk,tm,ta,tb,tn,tg,ts,te⟩:=t
  unfold oO
  simp only at Md EL⊢
  have HT:Hid (BA tn=BA tn):=rfl
  generalize BA tn=X at*
  have B1:Below w.heap.size w (w.alloc (.cells #[.int .i64 tk,.int .i64 tm,.int .i64 ta,.int .i64 tb,.string X,.bool tg,.int .i64 ts,.int .i64 te] 66)):=(Below.refl _ w).alloc (Nat.le_refl _) _
  have TB:Bk (w.alloc (.cells #[.int .i64 tk,.int .i64 tm,.int .i64 ta,.int .i64 tb,.string X,.bool tg,.int .i64 ts,.int .i64 te] 66)) w.heap.size #[.int .i64 tk,.int .i64 tm,.int .i64 ta,.int .i64 tb,.string X,.bool tg,.int .i64 ts,.int .i64 te] 66:=Bk.new w _ _
  obtain⟨w1,hw1⟩:∃w1,w.alloc (.cells #[.int .i64 tk,.int .i64 tm,.int .i64 ta,.int .i64 tb,.string X,.bool tg,.int .i64 ts,.int .i64 te] 66)=w1:=⟨_,rfl⟩
  have HW1:=sM hw1
  rw[hw1]at B1 TB
  have hz:w1.heap.size=w.heap.size+1:=by rw[←hw1];simp
  have x9:=HM.out B1 hgl x9
  have y0:=HM.out B1 sK y0
  have y1:=HM.out B1 sK y1
  have y2:=HM.out B1 sK y2
  have y3:=HM.out B1 sK y3
  have y4:=HM.out B1 sK y4
  have y5:=HM.out B1 sK y5
  have y6:=HM.out B1 sK y6
  have y7:=HM.out B1 sK y7
  clear h hown hcell hfro hrep hl hrl hxl hpt hpt' pc pf hw1 ht hi1 hyl
  go_enter Tryz.func29,Tryz.ntmps29
  go_upto_region 1 with fail
  rw[HW1.out]
  go_wp2_with fail
  go_region_held3(fun w'=>w'.cell? ⟨g,o+9,none⟩=some (.slice (some ⟨gp,0,none⟩) (m+1) p2)∧w'.cell? ⟨gp,m*8,none⟩=some (.int .i64 xk)∧w'.cell? ⟨gp,m*8+1,none⟩=some (.int .i64 xm)∧w'.cell? ⟨gp,m*8+2,none⟩=some (.int .i64 xa)∧w'.cell? ⟨gp,m*8+3,none⟩=some (.int .i64 xb)∧w'.cell? ⟨gp,m*8+4,none⟩=some (.bool xg)∧w'.cell? ⟨gp,m*8+5,none⟩=some (.string xn)∧w'.cell? ⟨gp,m*8+6,none⟩=some (.slice none 0 0)∧w'.cell? ⟨gp,m*8+7,none⟩=some (.slice ka kn kc))(go_keep)(fail)
  obtain⟨w2,hw2⟩:∃w2,(w1.alloc (.cells #[.int .i64 xk,.int .i64 xm,.int .i64 xa,.int .i64 xb,.bool xg,.string xn,.slice none 0 0,.slice ka kn kc] 26)).drew=w2:=⟨_,rfl⟩
  have IW:Below w1.heap.size w1 w2:=by rw[←hw2];exact((Below.refl _ w1).alloc (Nat.le_refl _) _).drew
  have LB:Bk w2 (w.heap.size+1) #[.int .i64 xk,.int .i64 xm,.int .i64 xa,.int .i64 xb,.bool xg,.string xn,.slice none 0 0,.slice ka kn kc] 26:=by rw[←hw2,←hz];exact(Bk.new w1 _ _).on (Below.refl _ _).drew
  have B2:Below w.heap.size w w2:=B1.trans (ae IW (by omega))
  have qZ:=TB.on IW
  have x9:=(IW.cell (p:=⟨g,o+9,none⟩) (by show g<w1.heap.size;omega)).trans x9
  have hz2:w2.heap.size=w.heap.size+2:=by rw[←hw2];simp[World.drew,hz]
  have CR2:=CR w2
  rw[hw2]
  have l0:=LB.cell 0 (u:=.int .i64 xk) rfl
  by_cases hkk:xk=8∨xk=10∨xk=12
  ·have HE:Hid (repB ⟨tk,tm,ta,tb,tn,tg,ts,te⟩ d=.error 150):=by unfold Hid;rw[EL.out,if_pos hkk]
   rw[decide_eq_true hkk]at CR2
   have HB:Hid (Below B w w2):=ae B2 fF
   clear hkk EL CR Md HPF HM TB
   go_wp2_with(refine CR2.mono ?_;rintro e w3⟨rfl,h3⟩;obtain rfl:=h3.symm;clear CR2)
   go_ret
   exact⟨HB.out,.inl ⟨150,HE.out,rfl,HGH.out _ B2⟩⟩
  ·have HE:Hid (repB ⟨tk,tm,ta,tb,tn,tg,ts,te⟩ d=.ok ⟨d.iJ,d.dH,d.pts.dropLast++[nd 8 tm ta tb false [] [l]]⟩):=by unfold Hid;rw[EL.out,if_neg hkk]
   rw[decide_eq_false hkk]at CR2
   have HMM:Hid (∀{b i:Nat}{u:Value},b<w.heap.size→w.cell? ⟨b,i,none⟩=some u→w2.cell? ⟨b,i,none⟩=some u):=fun hl h=>HM.out B2 hl h
   have y0:=(IW.cell (p:=⟨gp,m*8,none⟩) (by show gp<w1.heap.size;omega)).trans y0
   have y1:=(IW.cell (p:=⟨gp,m*8+1,none⟩) (by show gp<w1.heap.size;omega)).trans y1
   have y2:=(IW.cell (p:=⟨gp,m*8+2,none⟩) (by show gp<w1.heap.size;omega)).trans y2
   have y3:=(IW.cell (p:=⟨gp,m*8+3,none⟩) (by show gp<w1.heap.size;omega)).trans y3
   have y4:=(IW.cell (p:=⟨gp,m*8+4,none⟩) (by show gp<w1.heap.size;omega)).trans y4
   have y5:=(IW.cell (p:=⟨gp,m*8+5,none⟩) (by show gp<w1.heap.size;omega)).trans y5
   have y6:=(IW.cell (p:=⟨gp,m*8+6,none⟩) (by show gp<w1.heap.size;omega)).trans y6
   have y7:=(IW.cell (p:=⟨gp,m*8+7,none⟩) (by show gp<w1.heap.size;omega)).trans y7
   have v0:w2.frozen? ⟨gp,m*8+0,none⟩=false:=(World.frozen?_of_block (a:=⟨gp,m*8+0,none⟩) (B2.block gp sK)).trans (HPF.out _)
   have v1:w2.frozen? ⟨gp,m*8+1,none⟩=false:=(World.frozen?_of_block (a:=⟨gp,m*8+1,none⟩) (B2.block gp sK)).trans (HPF.out _)
   have v2:w2.frozen? ⟨gp,m*8+2,none⟩=false:=(World.frozen?_of_block (a:=⟨gp,m*8+2,none⟩) (B2.block gp sK)).trans (HPF.out _)
   have v3:w2.frozen? ⟨gp,m*8+3,none⟩=false:=(World.frozen?_of_block (a:=⟨gp,m*8+3,none⟩) (B2.block gp sK)).trans (HPF.out _)
   have v4:w2.frozen? ⟨gp,m*8+4,none⟩=false:=(World.frozen?_of_block (a:=⟨gp,m*8+4,none⟩) (B2.block gp sK)).trans (HPF.out _)
   have v5:w2.frozen? ⟨gp,m*8+5,none⟩=false:=(World.frozen?_of_block (a:=⟨gp,m*8+5,none⟩) (B2.block gp sK)).trans (HPF.out _)
   have v6:w2.frozen? ⟨gp,m*8+6,none⟩=false:=(World.frozen?_of_block (a:=⟨gp,m*8+6,none⟩) (B2.block gp sK)).trans (HPF.out _)
   have v7:w2.frozen? ⟨gp,m*8+7,none⟩=false:=(World.frozen?_of_block (a:=⟨gp,m*8+7,none⟩) (B2.block gp sK)).trans (HPF.out _)
   simp only[Nat.add_zero]at v0
   have t1:=qZ.cell 1 (u:=.int .i64 tm) rfl
   have t2:=qZ.cell 2 (u:=.int .i64 ta) rfl
   have t3:=qZ.cell 3 (u:=.int .i64 tb) rfl
   have l1:=LB.cell 1 (u:=.int .i64 xm) rfl
   have l2:=LB.cell 2 (u:=.int .i64 xa) rfl
   have l3:=LB.cell 3 (u:=.int .i64 xb) rfl
   have l4:=LB.cell 4 (u:=.bool xg) rfl
   have l5:=LB.cell 5 (u:=.string xn) rfl
   have l6:=LB.cell 6 (u:=.slice none 0 0) rfl
   have l7:=LB.cell 7 (u:=.slice ka kn kc) rfl
   have HF:Hid (∀w3,Below w2.heap.size w2 w3→Bk w3 (w.heap.size+2) #[.int .i64 xk,.int .i64 xm,.int .i64 xa,.int .i64 xb,.bool xg,.string xn,.slice none 0 0,.slice ka kn kc] 26→Sx K B (aC w3 gp (m*8) ⟨8,tm,ta,tb,false,⟨#[]⟩,some ⟨w.heap.size+2,0,none⟩,1,1⟩) pb ⟨nx,⟨d.iJ,d.dH,d.pts.dropLast++[nd 8 tm ta tb false [] [l]]⟩::bs',cs,nm⟩ (b::bl) cl (.slice (some ⟨g,0,none⟩) (bl.length+1) cap) cv nv∧Below B w (aC w3 gp (m*8) ⟨8,tm,ta,tb,false,⟨#[]⟩,some ⟨w.heap.size+2,0,none⟩,1,1⟩)):=fun w3 h1 h2=>Md.out w3 (w.heap.size+2) (B2.trans (ae h1 (by omega))) h2 (by omega)
   have hn1:¬gp=w2.heap.size:=by omega
   have hn2:¬w2.heap.size=gp:=by omega
   have hn3:¬gp=w.heap.size:=by omega
   have hn4:¬gp=w.heap.size+1:=by omega
   have hn5:¬gp=g:=Ne.symm GV
   have hn6:¬w.heap.size=gp:=by omega
   have hn7:¬w.heap.size+1=gp:=by omega
   have hn8:¬g=gp:=GV
   have hn9:¬w2.heap.size=w.heap.size+1:=by omega
   have hn10:¬w2.heap.size=w.heap.size:=by omega
   have hn11:¬w2.heap.size=g:=by omega
   clear hkk EL CR Md HPF HM TB HMM hw2 LB qZ B1 B2 IW
   go_wp2_with(refine CR2.mono ?_;rintro e w3⟨rfl,h3⟩;obtain rfl:=h3.symm;clear CR2)
   have mZ:Below w2.heap.size w2 (w2.alloc (.cells #[.int .i64 xk,.int .i64 xm,.int .i64 xa,.int .i64 xb,.bool xg,.string xn,.slice none 0 0,.slice ka kn kc] 26)).drew:=((Below.refl _ w2).alloc (Nat.le_refl _) _).drew
   have Iu:Bk (w2.alloc (.cells #[.int .i64 xk,.int .i64 xm,.int .i64 xa,.int .i64 xb,.bool xg,.string xn,.slice none 0 0,.slice ka kn kc] 26)).drew w2.heap.size #[.int .i64 xk,.int .i64 xm,.int .i64 xa,.int .i64 xb,.bool xg,.string xn,.slice none 0 0,.slice ka kn kc] 26:=(Bk.new w2 _ _).on (Below.refl _ _).drew
   have r0:=(mZ.cell (p:=⟨g,o+9,none⟩) (by simp only;omega)).trans x9
   have r1:=(mZ.cell (p:=⟨w.heap.size,1,none⟩) (by simp only;omega)).trans t1
   have r2:=(mZ.cell (p:=⟨w.heap.size,2,none⟩) (by simp only;omega)).trans t2
   have r3:=(mZ.cell (p:=⟨w.heap.size,3,none⟩) (by simp only;omega)).trans t3
   have r4:=(mZ.cell (p:=⟨w.heap.size+1,0,none⟩) (by simp only;omega)).trans l0
   have r5:=(mZ.cell (p:=⟨w.heap.size+1,1,none⟩) (by simp only;omega)).trans l1
   have r6:=(mZ.cell (p:=⟨w.heap.size+1,2,none⟩) (by simp only;omega)).trans l2
   have r7:=(mZ.cell (p:=⟨w.heap.size+1,3,none⟩) (by simp only;omega)).trans l3
   have r8:=(mZ.cell (p:=⟨w.heap.size+1,4,none⟩) (by simp only;omega)).trans l4
   have r9:=(mZ.cell (p:=⟨w.heap.size+1,5,none⟩) (by simp only;omega)).trans l5
   have r10:=(mZ.cell (p:=⟨w.heap.size+1,6,none⟩) (by simp only;omega)).trans l6
   have r11:=(mZ.cell (p:=⟨w.heap.size+1,7,none⟩) (by simp only;omega)).trans l7
   have s0:=(mZ.cell (p:=⟨gp,m*8,none⟩) (by simp only;omega)).trans y0
   have s1:=(mZ.cell (p:=⟨gp,m*8+1,none⟩) (by simp only;omega)).trans y1
   have s2:=(mZ.cell (p:=⟨gp,m*8+2,none⟩) (by simp only;omega)).trans y2
   have s3:=(mZ.cell (p:=⟨gp,m*8+3,none⟩) (by simp only;omega)).trans y3
   have s4:=(mZ.cell (p:=⟨gp,m*8+4,none⟩) (by simp only;omega)).trans y4
   have s5:=(mZ.cell (p:=⟨gp,m*8+5,none⟩) (by simp only;omega)).trans y5
   have s6:=(mZ.cell (p:=⟨gp,m*8+6,none⟩) (by simp only;omega)).trans y6
   have s7:=(mZ.cell (p:=⟨gp,m*8+7,none⟩) (by simp only;omega)).trans y7
   have f0:=(World.frozen?_of_block (a:=⟨gp,m*8,none⟩) (mZ.block gp (by omega))).trans v0
   have f1:=(World.frozen?_of_block (a:=⟨gp,m*8+1,none⟩) (mZ.block gp (by omega))).trans v1
   have f2:=(World.frozen?_of_block (a:=⟨gp,m*8+2,none⟩) (mZ.block gp (by omega))).trans v2
   have f3:=(World.frozen?_of_block (a:=⟨gp,m*8+3,none⟩) (mZ.block gp (by omega))).trans v3
   have f4:=(World.frozen?_of_block (a:=⟨gp,m*8+4,none⟩) (mZ.block gp (by omega))).trans v4
   have f5:=(World.frozen?_of_block (a:=⟨gp,m*8+5,none⟩) (mZ.block gp (by omega))).trans v5
   have f6:=(World.frozen?_of_block (a:=⟨gp,m*8+6,none⟩) (mZ.block gp (by omega))).trans v6
   have f7:=(World.frozen?_of_block (a:=⟨gp,m*8+7,none⟩) (mZ.block gp (by omega))).trans v7
   rw[hz2]at Iu
   have BW3H:Hid _:=mZ
   have KB3H:Hid _:=Iu
   clear mZ Iu
   refine UK.begin 20 (fun w'=>w'.cell? ⟨g,o+9,none⟩=some (.slice (some ⟨gp,0,none⟩) (m+1) p2)∧w'.cell? ⟨w.heap.size,1,none⟩=some (.int .i64 tm)∧w'.cell? ⟨w.heap.size,2,none⟩=some (.int .i64 ta)∧w'.cell? ⟨w.heap.size,3,none⟩=some (.int .i64 tb)∧w'.cell? ⟨w.heap.size+1,0,none⟩=some (.int .i64 xk)∧w'.cell? ⟨w.heap.size+1,1,none⟩=some (.int .i64 xm)∧w'.cell? ⟨w.heap.size+1,2,none⟩=some (.int .i64 xa)∧w'.cell? ⟨w.heap.size+1,3,none⟩=some (.int .i64 xb)∧w'.cell? ⟨w.heap.size+1,4,none⟩=some (.bool xg)∧w'.cell? ⟨w.heap.size+1,5,none⟩=some (.string xn)∧w'.cell? ⟨w.heap.size+1,6,none⟩=some (.slice none 0 0)∧w'.cell? ⟨w.heap.size+1,7,none⟩=some (.slice ka kn kc)) (by kernel_rfl) ⟨x9,t1,t2,t3,l0,l1,l2,l3,l4,l5,l6,l7⟩ (fun hHeld=>?_)
   iterate 17
    refine UK.take (v:=?_) rfl (by kernel_rfl) (fun _ _ _ h=>h) (by rfl) ?_ (by assumption) ?_
    rotate_left
    ·(intro w' hSw;(try dsimp only at hSw);go_simp;try with_reducible rfl)
    try simp only[Act.put,lin.sm]
   refine UK.one (by kernel_rfl) rfl (fun K hK=>?_)
   go_simp
   refine hK.out _ _ ?_ (fun hHeld=>?_)
   ·exact⟨r0,r1,r2,r3,r4,r5,r6,r7,r8,r9,r10,r11⟩
   clear hK K
   try simp only[Act.put,lin.sm]
   iterate 2
    refine UK.take (v:=?_) rfl (by kernel_rfl) (fun _ _ _ h=>h) (by rfl) ?_ (by assumption) ?_
    rotate_left
    ·(intro w' hSw;(try dsimp only at hSw);go_simp;try with_reducible rfl)
    try simp only[Act.put,lin.sm]
   generalize hw5:(w2.alloc (.cells #[.int .i64 xk,.int .i64 xm,.int .i64 xa,.int .i64 xb,.bool xg,.string xn,.slice none 0 0,.slice ka kn kc] 26)).drew=w5 at*
   clear hw5
   obtain⟨HF1,HF2⟩:=HF.out w5 BW3H.out KB3H.out
   have HG1:Hid _:=HF1
   have HG2:Hid _:=HF2
   clear HF1 HF2
   refine UK.last (by kernel_rfl) rfl (fun K hK=>?_)
   go_simp
   refine hK.out _ (aC w5 gp (m*8) ⟨8,tm,ta,tb,false,⟨#[]⟩,some ⟨w.heap.size+2,0,none⟩,1,1⟩) ?_
   clear hK K
   try simp only[Act.put,lin.sm]
   have hHeld:=True.intro
   refine lin.UH.fin (by kernel_rfl) ?_
   go_wp2
   go_ret
   exact⟨HG2.out,.inr ⟨_,HE.out,rfl,HG1.out⟩⟩
end Go.Proofs.YtgbkolonhddolaaGreatDoor.prs
namespace Go.Proofs.YtgbkolonhddolaaGreatDoor.prs
open Go.RowKit nod tok
open rng(R RV info_parts)
open lin(BA)
theorem iZ{w w':World}(x:Option Nat)(h:Below w.heap.size w w'):w.grownBy w' x:=⟨h.os,h.tape,h.output,h.size,fun k hk _=>h.block k hk⟩
theorem Rows.noded0{B:Nat}{w w':World}{v:Value}{p0:Option Addr}{p1 p2:Nat}{dH pts:List Nd}{Q:List Lr}(h:Rows B w ((v,dH)::(.slice p0 p1 p2,pts)::Q))(hb:Below w.heap.size w w'):
  Fz (Dd B w' Q) w' (eB pts) (a8 ⟨6,0,0,0,false,⟨#[]⟩,p0,p1,p2⟩)∧Rows B w' Q∧∀t u,Fz (Dd B w ((v,dH)::(.slice p0 p1 p2,pts)::Q)) w t u→Fz (Dd B w' Q) w' t u:=by
 have h1:=h.tail
 have hl:=h1.len
 have hs:Fz (Dd B w Q) w (eB pts) (a8 ⟨6,0,0,0,false,⟨#[]⟩,p0,p1,p2⟩):=h1.shut ⟨ai _ (by decide),ai _ (by decide),ai _ (by decide),ai _ (by decide)⟩ (by decide) hl.1
 exact⟨hs.nu (NU.of_below hb),h1.tail.nu (NU.of_below hb),fun t u f=>(f.mono fun k hk=>jk k (jk k hk)).nu (NU.of_below hb)⟩
theorem Rows.noded{B:Nat}{w w':World}{v:Value}{p0:Option Addr}{p1 p2 n c g5:Nat}{dH pts:List Nd}{Q:List Lr}{xs:List Nv}(h:Rows B w ((v,dH)::(.slice p0 p1 p2,pts)::Q))(hr:RN (Dd B w ((v,dH)::(.slice p0 p1 p2,pts)::Q)) w xs dH)(hn:dH.length=n)
  (hg:w.grownBy w' v.ownBlock)(h5:w'.ownsRow B 26 8 (.slice (some ⟨g5,0,none⟩) (n+1) c) (n+1) (bI xs++c8 ⟨6,0,0,0,false,⟨#[]⟩,p0,p1,p2⟩))(hat:v.ownBlock=some g5∨w.heap.size≤g5):
  Fz (Dd B w' Q) w' (nd 7 0 0 0 false [] (dH++[eB pts])) (a8 ⟨7,0,0,0,false,⟨#[]⟩,some ⟨g5,0,none⟩,n+1,c⟩)∧Rows B w' Q∧∀t u,Fz (Dd B w ((v,dH)::(.slice p0 p1 p2,pts)::Q)) w t u→Fz (Dd B w' Q) w' t u:=by
 have hsw:((v,dH)::(.slice p0 p1 p2,pts)::Q:List Lr).Perm ((.slice p0 p1 p2,pts)::(v,dH)::Q):=List.Perm.swap _ _ _
 have h1:=h.perm hsw
 have hl:=h1.len
 have hs:Fz (Dd B w ((v,dH)::Q)) w (eB pts) (a8 ⟨6,0,0,0,false,⟨#[]⟩,p0,p1,p2⟩):=h1.shut ⟨ai _ (by decide),ai _ (by decide),ai _ (by decide),ai _ (by decide)⟩ (by decide) hl.1
 have hm:∀k,Dd B w ((v,dH)::(.slice p0 p1 p2,pts)::Q) k→Dd B w ((v,dH)::Q) k:=fun k hk=>jk k (gu hsw k hk)
 have hat':(Value.slice (some ⟨g5,0,none⟩) (n+1) c).ownBlock=v.ownBlock∨∀y,(Value.slice (some ⟨g5,0,none⟩) (n+1) c).ownBlock=some y→w.heap.size≤y:=by
  rcases hat with e|e
  ·exact .inl e.symm
  ·exact .inr fun y e'=>by cases e';exact e
 obtain⟨hrw,hfz⟩:=h1.tail.mH (rs':=(.slice (some ⟨g5,0,none⟩) (n+1) c,dH++[eB pts])::Q) (xs':=xs++[⟨6,0,0,0,false,⟨#[]⟩,p0,p1,p2⟩]) (List.Perm.refl _) (List.Perm.refl _) (NU.aF hg) hat' (by rw[List.length_append,hn,iI,mI];exact h5) ((hr.imp fun t v f=>f.mono hm).snoc hs)
 exact⟨hrw.shut ⟨ai _ (by decide),ai _ (by decide),ai _ (by decide),ai _ (by decide)⟩ (by decide) (by simp[hn]),hrw.tail,fun t u f=>(hfz t u (f.mono hm)).mono fun k hk=>jk k hk⟩
theorem bX(w:World)(g o:Nat)(y:Nv):w.grownBy (aC w g o y) (some g):=by
 have t:∀{a b:World}(j:Nat)(u:Value),a.grownBy b (some g)→a.grownBy (b.setCell ⟨g,j,none⟩ u) (some g):=fun j u h=>fK h (ay _ g j u) fun i e=>.inl e
 exact t _ _ (t _ _ (t _ _ (t _ _ (t _ _ (t _ _ (t _ _ (ay w g o _)))))))
theorem zx{B:Nat}{w:World}{pg po:Nat}{q0 p0:Option Addr}{q1 q2 p1 p2:Nat}{d:Bd}{Q:List Lr}(x8:w.cell? ⟨pg,po+8,none⟩=some (.slice q0 q1 q2))(x9:w.cell? ⟨pg,po+9,none⟩=some (.slice p0 p1 p2))
  (h:Rows B w ((.slice q0 q1 q2,d.dH)::(.slice p0 p1 p2,d.pts)::Q))(fF:B≤w.heap.size)(hlb:d.dH.length≤200000)(hpn:∀x,(Value.slice q0 q1 q2).ownBlock=some x→x≠pg):
  Calls Tryz.prog 18 #[.pointer (some ⟨pg,po,none⟩)] w fun e w'=>∃y,e=.returned (a8 y)∧w.grownBy w' (Value.slice q0 q1 q2).ownBlock∧Fz (Dd B w' Q) w' d.node (a8 y)∧Rows B w' Q∧∀t u,Fz (Dd B w ((.slice q0 q1 q2,d.dH)::(.slice p0 p1 p2,d.pts)::Q)) w t u→Fz (Dd B w' Q) w' t u:=by
 obtain⟨i0,hi,hz0,hz1,hz2⟩:=info_parts ow
 have hpl:=World.block_lt_of_cell? w _ x8
 simp only[]at hpl
 obtain⟨xs,hown,hrn⟩:=h.each (.slice q0 q1 q2,d.dH) (by simp)
 have hq1:d.dH.length=q1:=h.len.1
 simp only[hq1]at hown
 have CS:=fun w'=>nW p0 p1 p2 w'
 simp only[a8]at CS
 have B0:Below w.heap.size w (w.alloc (.cells #[.int .i64 0,.int .i64 0,.int .i64 0,.int .i64 0,.bool false,.string ⟨#[]⟩,.slice none 0 0,.slice none 0 0] 26)):=(Below.refl _ w).alloc (Nat.le_refl _) _
 have RB0:Bk (w.alloc (.cells #[.int .i64 0,.int .i64 0,.int .i64 0,.int .i64 0,.bool false,.string ⟨#[]⟩,.slice none 0 0,.slice none 0 0] 26)) w.heap.size #[.int .i64 0,.int .i64 0,.int .i64 0,.int .i64 0,.bool false,.string ⟨#[]⟩,.slice none 0 0,.slice none 0 0] 26:=Bk.new w _ _
 obtain⟨w1,hw1⟩:∃w1,w.alloc (.cells #[.int .i64 0,.int .i64 0,.int .i64 0,.int .i64 0,.bool false,.string ⟨#[]⟩,.slice none 0 0,.slice none 0 0] 26)=w1:=⟨_,rfl⟩
 have HW1:=sM hw1
 have hz:w1.heap.size=w.heap.size+1:=by rw[←hw1];simp
 rw[hw1]at B0 RB0
 have x8':=(B0.cell (p:=⟨pg,po+8,none⟩) hpl).trans x8
 have x9':=(B0.cell (p:=⟨pg,po+9,none⟩) hpl).trans x9
 have HR1:Hid (Below w.heap.size w w1∧Bk w1 w.heap.size #[.int .i64 0,.int .i64 0,.int .i64 0,.int .i64 0,.bool false,.string ⟨#[]⟩,.slice none 0 0,.slice none 0 0] 26):=⟨B0,RB0⟩
 have HX:Hid (w.cell? ⟨pg,po+8,none⟩=some (.slice q0 q1 q2)∧w.cell? ⟨pg,po+9,none⟩=some (.slice p0 p1 p2)):=⟨x8,x9⟩
 have HH:=sM h
 have HN:Hid (d.dH.length=q1):=hq1
 have HRN:=sM hrn
 have HOW:Hid (∀w',Below w.heap.size w w'→w'.ownsRow B 26 8 (.slice q0 q1 q2) q1 (bI xs)):=fun w' hb=>rng.own_below' hown hb
 have HOL:Hid (∀x,(Value.slice q0 q1 q2).ownBlock=some x→x<w.heap.size):=fun x e=>(hown.lt x e).2
 clear h x8 x9 hw1 hq1 hrn hown B0 RB0
 go_enter Tryz.func18,Tryz.ntmps18
 go_upto_region 1 with fail
 rw[HW1.out]
 go_wp2_with fail
 refine(CS w1).mono ?_
 rintro e w2⟨rfl,hb2⟩
 have B2:Below w.heap.size w w2:=HR1.out.1.trans (ae hb2 (by omega))
 have RB2:=HR1.out.2.on hb2
 have hz2':=hb2.size
 have x8:=(B2.cell (p:=⟨pg,po+8,none⟩) hpl).trans HX.out.1
 have hpg:¬pg=w2.heap.size:=by omega
 have B3:Below w.heap.size w (w2.alloc (.cells #[.int .i64 6,.int .i64 0,.int .i64 0,.int .i64 0,.bool false,.string ⟨#[]⟩,.slice none 0 0,.slice p0 p1 p2] 26)):=B2.alloc (by omega) _
 have rq:=RB2.past (.cells #[.int .i64 6,.int .i64 0,.int .i64 0,.int .i64 0,.bool false,.string ⟨#[]⟩,.slice none 0 0,.slice p0 p1 p2] 26)
 have yz:Bk (w2.alloc (.cells #[.int .i64 6,.int .i64 0,.int .i64 0,.int .i64 0,.bool false,.string ⟨#[]⟩,.slice none 0 0,.slice p0 p1 p2] 26)) w2.heap.size #[.int .i64 6,.int .i64 0,.int .i64 0,.int .i64 0,.bool false,.string ⟨#[]⟩,.slice none 0 0,.slice p0 p1 p2] 26:=Bk.new w2 _ _
 have x83:=(B3.cell (p:=⟨pg,po+8,none⟩) hpl).trans HX.out.1
 clear x8' x9' CS hb2
 by_cases h0:q1=0
 ·subst h0
  have hemp:d.node=eB d.pts:=by unfold Bd.node;rw[if_pos (by rw[List.isEmpty_iff];exact List.length_eq_zero_iff.1 HN.out)]
  have HF:Hid (∀w',Below w.heap.size w w'→w.grownBy w' (Value.slice q0 0 q2).ownBlock∧Fz (Dd B w' Q) w' d.node (a8 ⟨6,0,0,0,false,⟨#[]⟩,p0,p1,p2⟩)∧Rows B w' Q∧∀t u,Fz (Dd B w ((.slice q0 0 q2,d.dH)::(.slice p0 p1 p2,d.pts)::Q)) w t u→Fz (Dd B w' Q) w' t u):=fun w' hb=>⟨iZ _ hb,by rw[hemp];exact HH.out.noded0 hb⟩
  have HB3:Hid _:=B3
  have xV:=sM rq
  have z0:=rq.cell 0 rfl
  have f0:=rq.frozen 0
  have z1:=rq.cell 1 rfl
  have z2:=rq.cell 2 rfl
  have z3:=rq.cell 3 rfl
  have z4:=rq.cell 4 rfl
  have z5:=rq.cell 5 rfl
  have z6:=rq.cell 6 rfl
  have z7:=rq.cell 7 rfl
  have f1:=rq.frozen 1
  have f2:=rq.frozen 2
  have f3:=rq.frozen 3
  have f4:=rq.frozen 4
  have f5:=rq.frozen 5
  have f6:=rq.frozen 6
  have f7:=rq.frozen 7
  have l0:=yz.cell 0 rfl
  have l1:=yz.cell 1 rfl
  have l2:=yz.cell 2 rfl
  have l3:=yz.cell 3 rfl
  have l4:=yz.cell 4 rfl
  have l5:=yz.cell 5 rfl
  have l6:=yz.cell 6 rfl
  have l7:=yz.cell 7 rfl
  have hne:¬w.heap.size=w2.heap.size:=by omega
  have hne':¬w2.heap.size=w.heap.size:=by omega
  clear B3 rq yz B2 RB2
  obtain⟨w3,hw3⟩:∃w3,w2.alloc (.cells #[.int .i64 6,.int .i64 0,.int .i64 0,.int .i64 0,.bool false,.string ⟨#[]⟩,.slice none 0 0,.slice p0 p1 p2] 26)=w3:=⟨_,rfl⟩
  have HW3:=sM hw3
  rw[hw3]at z0 f0 z1 z2 z3 z4 z5 z6 z7 f1 f2 f3 f4 f5 f6 f7 l0 l1 l2 l3 l4 l5 l6 l7 x83 HB3 xV
  clear hw3
  go_upto_region 2 with fail
  rw[HW3.out]
  have hres:=fun tm h=>yX (p:=2) Tryz.results18 tm w3 w.heap.size ⟨6,0,0,0,false,⟨#[]⟩,p0,p1,p2⟩ h xV.out
  have hfin:=HF.out _ (fI (o:=0) ⟨6,0,0,0,false,⟨#[]⟩,p0,p1,p2⟩ HB3.out (Nat.le_refl _))
  clear HF HB3 xV
  go_wp2
  change bodyPost _ _ _ _ _ (aC w3 w.heap.size 0 ⟨6,0,0,0,false,⟨#[]⟩,p0,p1,p2⟩)
  generalize aC w3 w.heap.size 0 ⟨6,0,0,0,false,⟨#[]⟩,p0,p1,p2⟩=W4 at*
  exact bodyPost_ret (hres _ rfl) rfl ⟨⟨6,0,0,0,false,⟨#[]⟩,p0,p1,p2⟩,rfl,hfin⟩
 ·have hne0:((q1:Int)==0)=false:=by simp;omega
  have hnod:d.node=nd 7 0 0 0 false [] (d.dH++[eB d.pts]):=by unfold Bd.node;rw[if_neg (by rw[List.isEmpty_iff];intro e;have:=HN.out;rw[e]at this;simp at this;omega)]
  have HB3:Hid _:=B3
  have xV:=sM rq
  have l0:=yz.cell 0 rfl
  have l1:=yz.cell 1 rfl
  have l2:=yz.cell 2 rfl
  have l3:=yz.cell 3 rfl
  have l4:=yz.cell 4 rfl
  have l5:=yz.cell 5 rfl
  have l6:=yz.cell 6 rfl
  have l7:=yz.cell 7 rfl
  clear B3 rq yz B2 RB2
  obtain⟨w3,hw3⟩:∃w3,w2.alloc (.cells #[.int .i64 6,.int .i64 0,.int .i64 0,.int .i64 0,.bool false,.string ⟨#[]⟩,.slice none 0 0,.slice p0 p1 p2] 26)=w3:=⟨_,rfl⟩
  have HW3:=sM hw3
  have hz3:w2.heap.size<w3.heap.size:=by rw[←hw3];simp
  rw[hw3]at l0 l1 l2 l3 l4 l5 l6 l7 x83 HB3 xV
  clear hw3
  have B4:Below w3.heap.size w3 (w3.drew.alloc (.cells #[.int .i64 6,.int .i64 0,.int .i64 0,.int .i64 0,.bool false,.string ⟨#[]⟩,.slice none 0 0,.slice p0 p1 p2] 26)):=((Below.refl _ w3).drew).alloc (Nat.le_refl _) _
  have uO:=sM (HB3.out.trans (ae B4 HB3.out.size))
  have HR4:=sM (xV.out.on B4)
  have yB:Hid (∀(j:Nat)u,(c8 ⟨6,0,0,0,false,⟨#[]⟩,p0,p1,p2⟩)[j]?=some u→(w3.drew.alloc (.cells #[.int .i64 6,.int .i64 0,.int .i64 0,.int .i64 0,.bool false,.string ⟨#[]⟩,.slice none 0 0,.slice p0 p1 p2] 26)).cell? ((⟨w3.heap.size,0,none⟩:Addr).add j)=some u):=fun j u hj=>by
   have b4:Bk (w3.drew.alloc (.cells #[.int .i64 6,.int .i64 0,.int .i64 0,.int .i64 0,.bool false,.string ⟨#[]⟩,.slice none 0 0,.slice p0 p1 p2] 26)) w3.heap.size #[.int .i64 6,.int .i64 0,.int .i64 0,.int .i64 0,.bool false,.string ⟨#[]⟩,.slice none 0 0,.slice p0 p1 p2] 26:=Bk.new w3.drew _ _
   rw[Addr.add_lit]
   have:=b4.cell j (u:=u) (by simpa[c8]using hj)
   simpa using this
  have wI:Hid (q1+1≤maxLen):=by have:=HN.out;unfold Hid maxLen;omega
  have wF:Hid ((q1+1)*104≤140737488355328):=by have:=HN.out;unfold Hid;omega
  have Iy:Hid (B≤w3.heap.size):=Nat.le_trans fF HB3.out.size
  have u83:=(B4.cell (p:=⟨pg,po+8,none⟩) (by show pg<w3.heap.size;have:=HB3.out.size;omega)).trans x83
  have u0:=(B4.cell (p:=⟨w2.heap.size,0,none⟩) hz3).trans l0
  have u1:=(B4.cell (p:=⟨w2.heap.size,1,none⟩) hz3).trans l1
  have u2:=(B4.cell (p:=⟨w2.heap.size,2,none⟩) hz3).trans l2
  have u3:=(B4.cell (p:=⟨w2.heap.size,3,none⟩) hz3).trans l3
  have u4:=(B4.cell (p:=⟨w2.heap.size,4,none⟩) hz3).trans l4
  have u5:=(B4.cell (p:=⟨w2.heap.size,5,none⟩) hz3).trans l5
  have u6:=(B4.cell (p:=⟨w2.heap.size,6,none⟩) hz3).trans l6
  have u7:=(B4.cell (p:=⟨w2.heap.size,7,none⟩) hz3).trans l7
  clear B4
  go_upto_region 2 with fail
  rw[HW3.out]
  go_upto_region 4 with fail
  refine UK.begin 8 (fun w'=>w'.cell? ⟨pg,po+8,none⟩=some (.slice q0 q1 q2)∧w'.cell? ⟨w2.heap.size,0,none⟩=some (.int .i64 6)∧w'.cell? ⟨w2.heap.size,1,none⟩=some (.int .i64 0)∧w'.cell? ⟨w2.heap.size,2,none⟩=some (.int .i64 0)∧w'.cell? ⟨w2.heap.size,3,none⟩=some (.int .i64 0)∧w'.cell? ⟨w2.heap.size,4,none⟩=some (.bool false)∧w'.cell? ⟨w2.heap.size,5,none⟩=some (.string ⟨#[]⟩)∧w'.cell? ⟨w2.heap.size,6,none⟩=some (.slice none 0 0)∧w'.cell? ⟨w2.heap.size,7,none⟩=some (.slice p0 p1 p2)) (by kernel_rfl) ⟨x83,l0,l1,l2,l3,l4,l5,l6,l7⟩ (fun hHeld=>?_)
  iterate 5
   refine UK.take (v:=?_) rfl (by kernel_rfl) (fun _ _ _ h=>h) (by rfl) ?_ (by assumption) ?_
   rotate_left
   ·(intro w' hSw;(try dsimp only at hSw);go_simp;try with_reducible rfl)
   try simp only[Act.put,lin.sm]
  refine UK.one (by kernel_rfl) rfl (fun K hK=>?_)
  go_simp
  refine hK.out _ _ ?_ (fun hHeld=>?_)
  ·exact⟨u83,u0,u1,u2,u3,u4,u5,u6,u7⟩
  clear hK K
  try simp only[Act.put,lin.sm]
  refine UK.one (by kernel_rfl) rfl (fun K hK=>?_)
  refine step_append_lies _ rfl _ _ 24 rfl B 26 i0 (.agg #[.int .i64 0,.int .i64 0,.int .i64 0,.int .i64 0,.bool false,.string ⟨#[]⟩,.slice none 0 0,.slice none 0 0]) 8 104 Tryz.underlying24 hi hz0 hz1 hz2 rfl (by decide) (.slice q0 q1 q2) q1 (bI xs) (by simp[Act.eval,Act.put]) (HOW.out _ uO.out) ⟨w3.heap.size,0,none⟩ 1 1 (c8 ⟨6,0,0,0,false,⟨#[]⟩,p0,p1,p2⟩) (by simp[Act.eval,Act.put]) rfl yB.out (tK _) (by decide) wI.out wF.out (by simp;exact Nat.le_succ_of_le Iy.out) _ rfl ?_
  intro g5 c5 w5 hown5 bQ kU Ct
  have hg5:w.grownBy w5 (Value.slice q0 q1 q2).ownBlock:=fK (iZ _ uO.out) bQ fun i e=>.inl e
  have hs4:=uO.out.size
  have yw:Bk w5 w.heap.size #[.int .i64 0,.int .i64 0,.int .i64 0,.int .i64 0,.bool false,.string ⟨#[]⟩,.slice none 0 0,.slice none 0 0] 26:=(bQ.block _ HR4.out.lt (fun e=>by have:=HOL.out _ e.symm;omega)).trans HR4.out
  have hat6:(Value.slice q0 q1 q2).ownBlock=some g5∨g5=w3.heap.size+1:=kU.elim .inl fun e=>.inr (by simpa[World.drew]using e)
  have hs3:=HB3.out.size
  have GV:g5≠w.heap.size:=by
   rcases hat6 with e|e
   ·have:=HOL.out _ e;omega
   ·omega
  have hg6:w.grownBy (aC w5 w.heap.size 0 ⟨7,0,0,0,false,⟨#[]⟩,some ⟨g5,0,none⟩,q1+1,c5⟩) (Value.slice q0 q1 q2).ownBlock:=fK hg5 (bX _ _ _ _) fun i e=>.inr (by cases e;exact Nat.le_refl _)
  have ho6:=hown5.kept (bX w5 w.heap.size 0 ⟨7,0,0,0,false,⟨#[]⟩,some ⟨g5,0,none⟩,q1+1,c5⟩) (.inr (fun e=>GV (by simpa[Value.ownBlock]using e)))
  have ql:Hid (w.grownBy (aC w5 w.heap.size 0 ⟨7,0,0,0,false,⟨#[]⟩,some ⟨g5,0,none⟩,q1+1,c5⟩) (Value.slice q0 q1 q2).ownBlock∧Fz (Dd B (aC w5 w.heap.size 0 ⟨7,0,0,0,false,⟨#[]⟩,some ⟨g5,0,none⟩,q1+1,c5⟩) Q) (aC w5 w.heap.size 0 ⟨7,0,0,0,false,⟨#[]⟩,some ⟨g5,0,none⟩,q1+1,c5⟩) d.node (a8 ⟨7,0,0,0,false,⟨#[]⟩,some ⟨g5,0,none⟩,q1+1,c5⟩)∧Rows B (aC w5 w.heap.size 0 ⟨7,0,0,0,false,⟨#[]⟩,some ⟨g5,0,none⟩,q1+1,c5⟩) Q∧∀t u,Fz (Dd B w ((.slice q0 q1 q2,d.dH)::(.slice p0 p1 p2,d.pts)::Q)) w t u→Fz (Dd B (aC w5 w.heap.size 0 ⟨7,0,0,0,false,⟨#[]⟩,some ⟨g5,0,none⟩,q1+1,c5⟩) Q) (aC w5 w.heap.size 0 ⟨7,0,0,0,false,⟨#[]⟩,some ⟨g5,0,none⟩,q1+1,c5⟩) t u):=⟨hg6,by rw[hnod];exact HH.out.noded HRN.out HN.out hg6 ho6 (hat6.elim .inl (fun e=>.inr (by omega)))⟩
  have HR5:=sM yw
  have y0:=yw.cell 0 rfl
  have y1:=yw.cell 1 rfl
  have y2:=yw.cell 2 rfl
  have y3:=yw.cell 3 rfl
  have y4:=yw.cell 4 rfl
  have y5:=yw.cell 5 rfl
  have y6:=yw.cell 6 rfl
  have y7:=yw.cell 7 rfl
  have v0:=yw.frozen 0
  have v1:=yw.frozen 1
  have v2:=yw.frozen 2
  have v3:=yw.frozen 3
  have v4:=yw.frozen 4
  have v5:=yw.frozen 5
  have v6:=yw.frozen 6
  have v7:=yw.frozen 7
  have gk:∀{b i:Nat}{u:Value},b<(w3.drew.alloc (.cells #[.int .i64 6,.int .i64 0,.int .i64 0,.int .i64 0,.bool false,.string ⟨#[]⟩,.slice none 0 0,.slice p0 p1 p2] 26)).heap.size→(∀x,(Value.slice q0 q1 q2).ownBlock=some x→x≠b)→(w3.drew.alloc (.cells #[.int .i64 6,.int .i64 0,.int .i64 0,.int .i64 0,.bool false,.string ⟨#[]⟩,.slice none 0 0,.slice p0 p1 p2] 26)).cell? ⟨b,i,none⟩=some u→w5.cell? ⟨b,i,none⟩=some u:=fun hl hn h=>(World.cell?_of_block (a:=⟨_,_,none⟩) (bQ.block _ hl (fun e=>hn _ e.symm rfl))).trans h
  have k83:=gk (by have:=uO.out.size;simp only[World.size_alloc,World.drew]at*;omega) hpn u83
  have k0:=gk (by show w2.heap.size<_;simp only[World.size_alloc,World.drew];omega) (fun x e=>by have:=HOL.out x e;omega) u0
  have k1:=gk (by show w2.heap.size<_;simp only[World.size_alloc,World.drew];omega) (fun x e=>by have:=HOL.out x e;omega) u1
  have k2:=gk (by show w2.heap.size<_;simp only[World.size_alloc,World.drew];omega) (fun x e=>by have:=HOL.out x e;omega) u2
  have k3:=gk (by show w2.heap.size<_;simp only[World.size_alloc,World.drew];omega) (fun x e=>by have:=HOL.out x e;omega) u3
  have k4:=gk (by show w2.heap.size<_;simp only[World.size_alloc,World.drew];omega) (fun x e=>by have:=HOL.out x e;omega) u4
  have k5:=gk (by show w2.heap.size<_;simp only[World.size_alloc,World.drew];omega) (fun x e=>by have:=HOL.out x e;omega) u5
  have k6:=gk (by show w2.heap.size<_;simp only[World.size_alloc,World.drew];omega) (fun x e=>by have:=HOL.out x e;omega) u6
  have k7:=gk (by show w2.heap.size<_;simp only[World.size_alloc,World.drew];omega) (fun x e=>by have:=HOL.out x e;omega) u7
  clear hown5 bQ kU hat6 hg5 hg6 ho6 yw gk
  refine hK.out _ _ ⟨k83,k0,k1,k2,k3,k4,k5,k6,k7⟩ (fun hHeld=>?_)
  clear hK K
  try simp only[Act.put,lin.sm]
  refine UK.take (v:=?_) rfl (by kernel_rfl) (fun _ _ _ h=>h) (by rfl) ?_ (by assumption) ?_
  rotate_left
  ·(intro w' hSw;(try dsimp only at hSw);go_simp;try with_reducible rfl)
  try simp only[Act.put,lin.sm]
  refine UK.last (by kernel_rfl) rfl (fun K hK=>?_)
  go_simp
  refine hK.out _ (aC w5 w.heap.size 0 ⟨7,0,0,0,false,⟨#[]⟩,some ⟨g5,0,none⟩,q1+1,c5⟩) ?_
  clear hK K
  try simp only[Act.put,lin.sm]
  have hHeld:=True.intro
  refine lin.UH.fin (by kernel_rfl) ?_
  have kM:Hid (∀tm,_→_):=fun tm h=>yX (p:=2) Tryz.results18 tm w5 w.heap.size ⟨7,0,0,0,false,⟨#[]⟩,some ⟨g5,0,none⟩,q1+1,c5⟩ h HR5.out
  clear HR5 y0 v0 y1 v1 y2 v2 y3 v3 y4 v4 y5 v5 y6 v6 y7 v7 hHeld
  generalize aC w5 w.heap.size 0 ⟨7,0,0,0,false,⟨#[]⟩,some ⟨g5,0,none⟩,q1+1,c5⟩=W4 at*
  go_wp2
  exact bodyPost_ret (kM.out _ rfl) rfl ⟨⟨7,0,0,0,false,⟨#[]⟩,some ⟨g5,0,none⟩,q1+1,c5⟩,rfl,ql.out⟩
end Go.Proofs.YtgbkolonhddolaaGreatDoor.prs
