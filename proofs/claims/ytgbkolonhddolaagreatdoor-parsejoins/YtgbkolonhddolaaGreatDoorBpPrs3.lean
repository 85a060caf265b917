import Derived.Test.YtgbkolonhddolaaGreatDoorBpPrs2
import Derived.Deep.RegionHeld3
import Derived.Deep.RegionWith
import Derived.Deep.AppendLies
import Derived.Laws.OwnMore
set_option linter.unusedSectionVars false
set_option linter.unusedSimpArgs false
set_option linter.unusedVariables false
set_option maxRecDepth 100000
set_option maxHeartbeats 4000000
theorem Go.Proofs.YtgbkolonhddolaaGreatDoor.uC{p:Prop}(h:p):Go.RowKit.Hid p:=h
namespace Go.Proofs.YtgbkolonhddolaaGreatDoor.prs
open Go.RowKit nod tok
open rng(R RV info_parts)
open lin(BA)
theorem ow:(Tryz.prog.info? 26).map (fun i=>(i.zero,i.size,i.bytes))=some (some (.agg #[.int .i64 0,.int .i64 0,.int .i64 0,.int .i64 0,.bool false,.string ⟨#[]⟩,.slice none 0 0,.slice none 0 0]),8,104):=by kernel_rfl
def z0:Nv:=⟨0,0,0,0,false,⟨#[]⟩,none,0,0⟩
/--A node's cells, stored. -/
def aC(w:World)(g o:Nat)(y:Nv):World:=(((((((w.setCell ⟨g,o,none⟩ (.int .i64 y.k)).setCell ⟨g,o+1,none⟩ (.int .i64 y.m)).setCell ⟨g,o+2,none⟩ (.int .i64 y.a)).setCell ⟨g,o+3,none⟩ (.int .i64 y.b)).setCell ⟨g,o+4,none⟩ (.bool y.g)).setCell ⟨g,o+5,none⟩ (.string y.nm)).setCell ⟨g,o+6,none⟩ (.slice none 0 0)).setCell ⟨g,o+7,none⟩ (.slice y.ka y.kn y.kc)
theorem wN(w:World)(p q:Addr)(u v:Value)(h:p.block≠q.block):(w.setCell p u).setCell q v=(w.setCell q v).setCell p u:=by
 unfold World.setCell
 simp only[World.mk.injEq,and_true,true_and]
 apply Array.ext_getElem?
 intro i
 simp only[Array.getElem?_modify]
 by_cases h1:p.block=i<;>by_cases h2:q.block=i<;>simp[h1,h2]
 exact absurd (h1.trans h2.symm) h
theorem mi(w:World)(g g5 o o8:Nat)(y:Nv)(u:Value)(h:g≠g5):aC (w.setCell ⟨g,o,none⟩ u) g5 o8 y=(aC w g5 o8 y).setCell ⟨g,o,none⟩ u:=by
 have c:∀(w:World)(j:Nat)(v:Value),(w.setCell ⟨g,o,none⟩ u).setCell ⟨g5,j,none⟩ v=(w.setCell ⟨g5,j,none⟩ v).setCell ⟨g,o,none⟩ u:=fun w j v=>wN w _ _ u v h
 unfold aC
 rw[c,c,c,c,c,c,c,c]
theorem fK{a b c:World}{x y:Option Nat}(h:a.grownBy b x)(k:b.grownBy c y)(hy:∀i,y=some i→x=some i∨a.heap.size≤i):a.grownBy c x:=
 ⟨k.os.trans h.os,k.tape.trans h.tape,k.output.trans h.output,Nat.le_trans h.size k.size,fun i hi hx=>(k.block i (Nat.lt_of_lt_of_le hi h.size) (fun e=>by rcases hy i e.symm with e'|e';exact hx e'.symm;omega)).trans (h.block i hi hx)⟩
theorem rW{B:Nat}{w:World}{g n c o:Nat}{l:List Nv}{x:Nv}(h:w.ownsRow B 26 8 (.slice (some ⟨g,0,none⟩) n c) n (bI (l++[x])))(ho:o=l.length*8)(y:Nv):(aC w g o y).ownsRow B 26 8 (.slice (some ⟨g,0,none⟩) n c) n (bI (l++[y]))∧w.grownBy (aC w g o y) (some g):=by
 have h0:=h.stored o (.int .i64 y.k)
 have h1:=h0.1.stored (o+1) (.int .i64 y.m)
 have h2:=h1.1.stored (o+2) (.int .i64 y.a)
 have h3:=h2.1.stored (o+3) (.int .i64 y.b)
 have h4:=h3.1.stored (o+4) (.bool y.g)
 have h5:=h4.1.stored (o+5) (.string y.nm)
 have h6:=h5.1.stored (o+6) (.slice none 0 0)
 have h7:=h6.1.stored (o+7) (.slice y.ka y.kn y.kc)
 have t:∀{a b c:World},a.grownBy b (some g)→b.grownBy c (some g)→a.grownBy c (some g):=fun h k=>fK h k fun i e=>.inl e
 refine⟨?_,t (t (t (t (t (t (t h0.2 h1.2) h2.2) h3.2) h4.2) h5.2) h6.2) h7.2⟩
 have:=h7.1
 rwa[Ha l x y o ho]at this
theorem Rows.mH{B:Nat}{w w':World}{rs rs':List Lr}{v v':Value}{l l':List Nd}{rest:List Lr}{xs':List Nv}(h:Rows B w rs)(hp:rs.Perm ((v,l)::rest))(hp':rs'.Perm ((v',l')::rest))(hu:NU v.ownBlock w w')(hb:v'.ownBlock=v.ownBlock∨∀x,v'.ownBlock=some x→w.heap.size≤x)
  (ho:w'.ownsRow B 26 8 v' l'.length (bI xs'))(hr:RN (Dd B w rs) w xs' l'):Rows B w' rs'∧∀t u,Fz (Dd B w rs) w t u→Fz (Dd B w' rs') w' t u:=by
 have m1:∀k,Dd B w rs k→Dd B w ((v,l)::rest) k:=fun k hk=>⟨hk.1,fun q hq=>hk.2 q (hp.mem_iff.2 hq)⟩
 have m2:∀k,Dd B w' ((v',l')::rest) k→Dd B w' rs' k:=fun k hk=>⟨hk.1,fun q hq=>hk.2 q (hp'.mem_iff.1 hq)⟩
 exact⟨((h.perm hp).grow hu hb ho (hr.imp fun t u f=>f.mono m1)).perm hp'.symm,fun t u f=>((f.mono m1).grow hu hb).mono m2⟩
theorem Below.aF{B:Nat}{w w':World}{x:Option Nat}(h:w.grownBy w' x)(hB:B≤w.heap.size)(hx:∀k,x=some k→B≤k):Below B w w':=
 ⟨h.os,h.tape,h.output,h.size,fun k hk=>h.block k (by omega) (fun e=>by have:=hx k e.symm;omega)⟩
/--A node's cells in a row that has grown by one, and what the row has when they are set. -/
theorem grew{B:Nat}{w wA w5:World}{v:Value}{g5 n c:Nat}{xs ys:List Nv}(x:Nv)(hA:Below w.heap.size w wA)(h0:w.ownsRow B 26 8 v n (bI ys))(hl:xs.length=n)
  (h5:w5.ownsRow B 26 8 (.slice (some ⟨g5,0,none⟩) (n+1) c) (n+1) (bI xs++c8 z0))(hg:wA.grownBy w5 v.ownBlock)(hat:v.ownBlock=some g5∨g5=wA.heap.size):
  (aC w5 g5 (n*8) x).ownsRow B 26 8 (.slice (some ⟨g5,0,none⟩) (n+1) c) (n+1) (bI (xs++[x]))∧wA.grownBy (aC w5 g5 (n*8) x) v.ownBlock∧(∀k,v.ownBlock=some k→lh wA k)∧
  (∀j u,(c8 z0)[j]?=some u→w5.cell? ⟨g5,n*8+j,none⟩=some u)∧∀j,w5.frozen? ⟨g5,j,none⟩=false:=by
 have h5':w5.ownsRow B 26 8 (.slice (some ⟨g5,0,none⟩) (n+1) c) (n+1) (bI (xs++[z0])):=by rw[iI,mI];exact h5
 obtain⟨o8,g8⟩:=rW h5' (o:=n*8) (by rw[hl]) x
 refine⟨o8,fK hg g8 fun i e=>?_,fun k e=>lh.own (rng.own_below' h0 hA) e,fun j u hu=>?_,fun j=>h5'.frozenAt j⟩
 ·cases e
  rcases hat with e'|e'
  ·exact .inl e'
  ·exact .inr (by omega)
 ·have hj:j<8:=(List.getElem?_eq_some_iff.1 hu).1
  rw[h5'.cellAt _ (by omega)]
  exact jU (xs++[z0]) n j z0 u (by rw[←hl];simp) hu
variable[gh:Gh]
/--A node more in the innermost body. -/
theorem Sx.added{K B:Nat}{w wA w5:World}{pb nx d bs' cs nm b bl cl cv nv}{g cap o g5 n c:Nat}{xs:List Nv}{t:Nd}{x:Nv}(h:Sx K B w pb ⟨nx,d::bs',cs,nm⟩ (b::bl) cl (.slice (some ⟨g,0,none⟩) (bl.length+1) cap) cv nv)
  (hx:Fz (Dd B w (rowsOf (b::bl) (d::bs') cl cs)) w t (a8 x))(hA:Below w.heap.size w wA)(hr:RN (Dd B w (rowsOf (b::bl) (d::bs') cl cs)) w xs d.pts)(hn:d.pts.length=n)
  (h5:w5.ownsRow B 26 8 (.slice (some ⟨g5,0,none⟩) (n+1) c) (n+1) (bI xs++c8 z0))(hg:wA.grownBy w5 (Value.slice b.pt.1 b.pt.2.1 b.pt.2.2).ownBlock)(hat:(Value.slice b.pt.1 b.pt.2.1 b.pt.2.2).ownBlock=some g5∨g5=wA.heap.size)(ho:bl.length*10=o):
  (Sx (K+1) B ((aC w5 g5 (n*8) x).setCell ⟨g,o+9,none⟩ (.slice (some ⟨g5,0,none⟩) (n+1) c)) pb ⟨nx,eQ t d::bs',cs,nm⟩ ({b with pt:=(some ⟨g5,0,none⟩,n+1,c)}::bl) cl (.slice (some ⟨g,0,none⟩) (bl.length+1) cap) cv nv∧
  Below B w ((aC w5 g5 (n*8) x).setCell ⟨g,o+9,none⟩ (.slice (some ⟨g5,0,none⟩) (n+1) c)))∧
  (∀j u,(c8 z0)[j]?=some u→w5.cell? ⟨g5,n*8+j,none⟩=some u)∧(∀j,w5.frozen? ⟨g5,j,none⟩=false)∧
  (aC w5 g5 (n*8) x).cell? ⟨g,o+9,none⟩=some (.slice b.pt.1 b.pt.2.1 b.pt.2.2)∧(aC w5 g5 (n*8) x).frozen? ⟨g,o+9,none⟩=false∧w5.cell? ⟨g,o+9,none⟩=some (.slice b.pt.1 b.pt.2.1 b.pt.2.2)∧w5.frozen? ⟨g,o+9,none⟩=false∧g≠g5:=by
 subst ho
 obtain⟨ys,h0,_⟩:=h.rows.each (.slice b.pt.1 b.pt.2.1 b.pt.2.2,d.pts) (by simp[rowsOf,rowsB])
 simp only[hn]at h0
 obtain⟨o8,KH,hN,hc,hf⟩:=grew x hA h0 (hr.1.trans hn) h5 hg hat
 have hpx:=(h.px.below hA).grown KH hN
 obtain⟨g',cap',e,hBg,hgl,_,_,hcell,hfro⟩:=hpx.body
 simp only[Value.slice.injEq,Option.some.injEq,Addr.mk.injEq,and_true,true_and]at e
 obtain⟨rfl,rfl⟩:=e
 have KF:=(h.px.below hA).grown hg hN
 obtain⟨g',cap',e,_,_,_,_,hcell',zO⟩:=KF.body
 simp only[Value.slice.injEq,Option.some.injEq,Addr.mk.injEq,and_true,true_and]at e
 obtain⟨rfl,rfl⟩:=e
 obtain⟨hp2,hu2⟩:=hpx.rM {b with pt:=(some ⟨g5,0,none⟩,n+1,c)} 9 _ (.slice (some ⟨g5,0,none⟩) (n+1) c) rfl rfl
 have hat':(Value.slice (some ⟨g5,0,none⟩) (n+1) c).ownBlock=(Value.slice b.pt.1 b.pt.2.1 b.pt.2.2).ownBlock∨∀y,(Value.slice (some ⟨g5,0,none⟩) (n+1) c).ownBlock=some y→w.heap.size≤y:=by
  rcases hat with e|e
  ·exact .inl e.symm
  ·exact .inr fun y e'=>by
    have:=Option.some.inj e'
    have:=hA.size
    simp only at*
    omega
 have hl1:(eQ t d).pts.length=n+1:=by simp[eQ,hn]
 obtain⟨hrw,hfz⟩:=h.rows.mH (rs':=rowsOf ({b with pt:=(some ⟨g5,0,none⟩,n+1,c)}::bl) (eQ t d::bs') cl cs) (List.Perm.swap _ _ _) (List.Perm.swap _ _ _) ((NU.of_below hA).trans (NU.aF KH)) hat' (by rw[hl1];exact o8) (hr.snoc hx)
 refine⟨⟨⟨hp2,?_,h.cx.imp fun t u f=>(hfz t u f).nu hu2,hrw.nu hu2,by have:=h.lb;simp only[List.length_cons]at*;omega,by have:=h.lc;omega,by have:=h.ln;simp only at*;omega,fun r hr=>?_⟩,?_⟩,hc,hf,hcell 9 _ rfl,hfro _,hcell' 9 _ rfl,zO _,?_⟩
 ·cases h.br with
  |cons _ _ _ _ e hi hn' hr=>exact .cons _ _ _ _ e hi hn' hr
 ·have hlr:∀q∈rowsOf (b::bl) (d::bs') cl cs,q.2.length≤K:=h.lr
  simp only[rowsOf,rowsB,List.cons_append,List.mem_cons]at hr hlr
  rcases hr with rfl|rfl|hr
  ·have:=hlr _ (.inl rfl);simp only[eQ]at*;omega
  ·have:=hlr _ (.inr (.inl rfl));rw[hl1];simp only[hn]at this;omega
  ·have:=hlr r (.inr (.inr hr));omega
 ·have fF:B≤w.heap.size:=by
   obtain⟨g',cap',e,hBg,hgl,_⟩:=h.px.body
   omega
  exact((ae hA fF).trans (Below.aF KH (by have:=hA.size;omega) fun k e=>(h0.lt k e).1)).setCell (by exact hBg) _
 ·rintro rfl
  exact bT hpx.bo (by decide) rfl (lh.own o8 rfl)
theorem EH{K B:Nat}{w:World}{pb nx d bs' cs nm b bl cl cv nv}{g cap:Nat}{t:Nd}(k m a bb:Int)(ng:Bool)(na:ByteArray)(ka:Option Addr)(kn kc:Nat)(h:Sx K B w pb ⟨nx,d::bs',cs,nm⟩ (b::bl) cl (.slice (some ⟨g,0,none⟩) (bl.length+1) cap) cv nv)
  (hx:Fz (Dd B w (rowsOf (b::bl) (d::bs') cl cs)) w t (a8 ⟨k,m,a,bb,ng,na,ka,kn,kc⟩))(hKb:K≤100000):
  Calls Tryz.prog 32 #[.pointer (some ⟨g,bl.length*10,none⟩),.agg #[.int .i64 k,.int .i64 m,.int .i64 a,.int .i64 bb,.bool ng,.string na,.slice none 0 0,.slice ka kn kc]] w fun e w'=>e=.returned (.tuple #[])∧Below B w w'∧
   ∃s1,Sx (K+1) B w' pb ⟨nx,eQ t d::bs',cs,nm⟩ ({b with pt:=s1}::bl) cl (.slice (some ⟨g,0,none⟩) (bl.length+1) cap) cv nv:=by
 obtain⟨i0,hi,hz0,hz1,hz2⟩:=info_parts ow
 obtain⟨g',cap',e,hBg,hgl,_,_,hcell,hfro⟩:=h.px.body
 simp only[Value.slice.injEq,Option.some.injEq,Addr.mk.injEq,and_true,true_and]at e
 obtain⟨rfl,rfl⟩:=e
 obtain⟨xs,hown,hrn⟩:=h.rows.each (.slice b.pt.1 b.pt.2.1 b.pt.2.2,d.pts) (by simp[rowsOf,rowsB])
 have hlen:=h.lr (.slice b.pt.1 b.pt.2.1 b.pt.2.2,d.pts) (by simp[rowsOf,rowsB])
 obtain⟨n,hn⟩:∃n,d.pts.length=n:=⟨_,rfl⟩
 simp only[hn]at hown hlen
 have x9:=hcell 9 _ rfl
 have f9:=hfro (bl.length*10+9)
 have HH:=uC h
 have HX:=uC hx
 have HR:=uC hrn
 have HN:Hid (d.pts.length=n):=hn
 obtain⟨o,ho⟩:∃o,bl.length*10=o:=⟨_,rfl⟩
 have HO:Hid (bl.length*10=o):=ho
 rw[ho]at x9 f9⊢
 obtain⟨L,hL⟩:∃L,bl.length+1=L:=⟨_,rfl⟩
 have HLL:Hid (bl.length+1=L):=hL
 obtain⟨⟨p0,p1,p2⟩,hpt⟩:∃p,b.pt=p:=⟨_,rfl⟩
 rw[hpt]at hown x9
 obtain rfl:p1=n:=by
  rcases hown.2 with⟨e,h0⟩|⟨g1,c1,Lj,e,_⟩
  ·simp only[Value.slice.injEq]at e;omega
  ·simp only[Value.slice.injEq]at e;exact e.2.1
 have IK:Hid (b.pt=(p0,p1,p2)):=hpt
 have BX:Bk (w.alloc (.cells #[.int .i64 k,.int .i64 m,.int .i64 a,.int .i64 bb,.bool ng,.string na,.slice none 0 0,.slice ka kn kc] 26)) w.heap.size #[.int .i64 k,.int .i64 m,.int .i64 a,.int .i64 bb,.bool ng,.string na,.slice none 0 0,.slice ka kn kc] 26:=Bk.new w _ _
 have B1:Below w.heap.size w (w.alloc (.cells #[.int .i64 k,.int .i64 m,.int .i64 a,.int .i64 bb,.bool ng,.string na,.slice none 0 0,.slice ka kn kc] 26)):=(Below.refl _ w).alloc (Nat.le_refl _) _
 have hz:(w.alloc (.cells #[.int .i64 k,.int .i64 m,.int .i64 a,.int .i64 bb,.bool ng,.string na,.slice none 0 0,.slice ka kn kc] 26)).heap.size=w.heap.size+1:=by simp
 have x9:=(B1.cell (p:=⟨g,o+9,none⟩) hgl).trans x9
 have f9:=(World.frozen?_of_block (a:=⟨g,o+9,none⟩) (B1.block g hgl)).trans f9
 obtain⟨w1,hw1⟩:∃w1,w.alloc (.cells #[.int .i64 k,.int .i64 m,.int .i64 a,.int .i64 bb,.bool ng,.string na,.slice none 0 0,.slice ka kn kc] 26)=w1:=⟨_,rfl⟩
 have HW1:=uC hw1
 rw[hw1]at BX B1 hz x9 f9
 have l0:=BX.cell 0 (u:=.int .i64 k) rfl
 have l1:=BX.cell 1 (u:=.int .i64 m) rfl
 have l2:=BX.cell 2 (u:=.int .i64 a) rfl
 have l3:=BX.cell 3 (u:=.int .i64 bb) rfl
 have l4:=BX.cell 4 (u:=.bool ng) rfl
 have l5:=BX.cell 5 (u:=.string na) rfl
 have l6:=BX.cell 6 (u:=.slice none 0 0) rfl
 have l7:=BX.cell 7 (u:=.slice ka kn kc) rfl
 have BW:Below w1.heap.size w1 (w1.drew.alloc (.cells #[.int .i64 0,.int .i64 0,.int .i64 0,.int .i64 0,.bool false,.string ⟨#[]⟩,.slice none 0 0,.slice none 0 0] 26)):=((Below.refl _ w1).drew).alloc (Nat.le_refl _) _
 have jd:Hid (Below w.heap.size w (w1.drew.alloc (.cells #[.int .i64 0,.int .i64 0,.int .i64 0,.int .i64 0,.bool false,.string ⟨#[]⟩,.slice none 0 0,.slice none 0 0] 26))):=B1.trans (ae BW (by omega))
 have x9':=(BW.cell (p:=⟨g,o+9,none⟩) (by show g<w1.heap.size;omega)).trans x9
 have BY:Bk (w1.drew.alloc (.cells #[.int .i64 0,.int .i64 0,.int .i64 0,.int .i64 0,.bool false,.string ⟨#[]⟩,.slice none 0 0,.slice none 0 0] 26)) w.heap.size #[.int .i64 k,.int .i64 m,.int .i64 a,.int .i64 bb,.bool ng,.string na,.slice none 0 0,.slice ka kn kc] 26:=BX.on BW
 have HOW:=uC (rng.own_below' (rng.own_below' hown B1) BW)
 have yB:Hid (∀(j:Nat)u,(c8 z0)[j]?=some u→(w1.drew.alloc (.cells #[.int .i64 0,.int .i64 0,.int .i64 0,.int .i64 0,.bool false,.string ⟨#[]⟩,.slice none 0 0,.slice none 0 0] 26)).cell? ((⟨w1.heap.size,0,none⟩:Addr).add j)=some u):=fun j u hj=>by
  have b4:Bk (w1.drew.alloc (.cells #[.int .i64 0,.int .i64 0,.int .i64 0,.int .i64 0,.bool false,.string ⟨#[]⟩,.slice none 0 0,.slice none 0 0] 26)) w1.heap.size #[.int .i64 0,.int .i64 0,.int .i64 0,.int .i64 0,.bool false,.string ⟨#[]⟩,.slice none 0 0,.slice none 0 0] 26:=Bk.new w1.drew _ _
  rw[Addr.add_lit]
  have:=b4.cell j (u:=u) (by simpa[c8,z0]using hj)
  simpa using this
 have wI:Hid (p1+1≤maxLen):=by unfold Hid maxLen;omega
 have wF:Hid ((p1+1)*104≤140737488355328):=by unfold Hid;omega
 have HBs:Hid (B≤w1.heap.size):=by unfold Hid;omega
 clear hown hrn hn hlen hcell hfro ho hL hpt hw1 h hx BX
 go_enter Tryz.func32,Tryz.ntmps32
 go_upto_region 1 with fail
 rw[HW1.out]
 refine wp_region_noPanic ?_
 refine aZ 7 (fun w'=>w'.cell? ⟨g,o+9,none⟩=some (.slice p0 p1 p2)∧w'.cell? ⟨w.heap.size,0,none⟩=some (.int .i64 k)∧w'.cell? ⟨w.heap.size,1,none⟩=some (.int .i64 m)∧w'.cell? ⟨w.heap.size,2,none⟩=some (.int .i64 a)∧w'.cell? ⟨w.heap.size,3,none⟩=some (.int .i64 bb)∧w'.cell? ⟨w.heap.size,4,none⟩=some (.bool ng)∧w'.cell? ⟨w.heap.size,5,none⟩=some (.string na)∧w'.cell? ⟨w.heap.size,6,none⟩=some (.slice none 0 0)∧w'.cell? ⟨w.heap.size,7,none⟩=some (.slice ka kn kc)) (by kernel_rfl) ⟨x9,l0,l1,l2,l3,l4,l5,l6,l7⟩ (fun hHeld=>?_)
 refine gH 0 (v:=?_) rfl (by kernel_rfl) (fun _ _ _ h=>h) (by rfl) ?_ (by assumption) ?_
 rotate_left
 ·(intro w' hSw;(try dsimp only at hSw);go_simp;try with_reducible rfl)
 try simp only[Act.put,lin.sm]
 refine gH 1 (v:=?_) rfl (by kernel_rfl) (fun _ _ _ h=>h) (by rfl) ?_ (by assumption) ?_
 rotate_left
 ·(intro w' hSw;(try dsimp only at hSw);go_simp;try with_reducible rfl)
 try simp only[Act.put,lin.sm]
 refine gH 2 (v:=?_) rfl (by kernel_rfl) (fun _ _ _ h=>h) (by rfl) ?_ (by assumption) ?_
 rotate_left
 ·(intro w' hSw;(try dsimp only at hSw);go_simp;try with_reducible rfl)
 try simp only[Act.put,lin.sm]
 refine gH 3 (v:=?_) rfl (by kernel_rfl) (fun _ _ _ h=>h) (by rfl) ?_ (by assumption) ?_
 rotate_left
 ·(intro w' hSw;(try dsimp only at hSw);go_simp;try with_reducible rfl)
 try simp only[Act.put,lin.sm]
 refine gH 4 (v:=?_) rfl (by kernel_rfl) (fun _ _ _ h=>h) (by rfl) ?_ (by assumption) ?_
 rotate_left
 ·(intro w' hSw;(try dsimp only at hSw);go_simp;try with_reducible rfl)
 try simp only[Act.put,lin.sm]
 refine gH 5 (v:=?_) rfl (by kernel_rfl) (fun _ _ _ h=>h) (by rfl) ?_ (by assumption) ?_
 rotate_left
 ·(intro w' hSw;(try dsimp only at hSw);go_simp;try with_reducible rfl)
 try simp only[Act.put,lin.sm]
 refine aG (j:=6) (by kernel_rfl) (by decide) rfl (fun K hK=>?_)
 go_simp
 refine hK.out _ _ ?_ (fun hHeld=>?_)
 ·exact⟨x9',BY.cell 0 rfl,BY.cell 1 rfl,BY.cell 2 rfl,BY.cell 3 rfl,BY.cell 4 rfl,BY.cell 5 rfl,BY.cell 6 rfl,BY.cell 7 rfl⟩
 clear hK K
 try simp only[Act.put,lin.sm]
 refine aU (by kernel_rfl) rfl (fun K hK=>?_)
 refine step_append_lies _ rfl _ _ 24 rfl B 26 i0 (.agg #[.int .i64 0,.int .i64 0,.int .i64 0,.int .i64 0,.bool false,.string ⟨#[]⟩,.slice none 0 0,.slice none 0 0]) 8 104 Tryz.underlying24 hi hz0 hz1 hz2 rfl (by decide) (.slice p0 p1 p2) p1 (bI xs) (by simp[Act.eval,Act.put]) HOW.out ⟨w1.heap.size,0,none⟩ 1 1 (c8 z0) (by simp[Act.eval,Act.put]) rfl yB.out (tK z0) (by decide) wI.out wF.out (by simp;exact Nat.le_succ_of_le HBs.out) _ rfl ?_
 intro g5 c5 w5 hown5 bQ kU Ct
 obtain⟨HD,hc,hf,q9,r9,q9',r9',hne⟩:=HH.out.added HX.out jd.out HR.out HN.out hown5 (by rw[IK.out];exact bQ) (by rw[IK.out];exact kU) HO.out
 rw[IK.out]at q9 q9'
 have xW:Hid (_∧_):=HD
 clear hown5 bQ kU HD
 have y0:=hc 0 _ rfl
 have y1:=hc 1 _ rfl
 have y2:=hc 2 _ rfl
 have y3:=hc 3 _ rfl
 have y4:=hc 4 _ rfl
 have y5:=hc 5 _ rfl
 have y6:=hc 6 _ rfl
 have y7:=hc 7 _ rfl
 have v0:=hf (p1*8+0)
 have v1:=hf (p1*8+1)
 have v2:=hf (p1*8+2)
 have v3:=hf (p1*8+3)
 have v4:=hf (p1*8+4)
 have v5:=hf (p1*8+5)
 have v6:=hf (p1*8+6)
 have v7:=hf (p1*8+7)
 simp only[Nat.add_zero]at y0 v0
 clear hc hf
 have hidx:((p1:Nat):Int)<(p1:Int)+1:=by omega
 have hne':=Ne.symm hne
 refine hK.out _ _ ?_
 clear hK K
 try simp only[Act.put,lin.sm]
 refine wpAny_of_held (S:=fun _=>True) _ _ _ _ ?_
 have hHeld:=True.intro
 refine lin.eT 8 (v:=?_) rfl (by kernel_rfl) (fun _ _ _ h=>h) (by rfl) ?_ (by assumption) ?_
 rotate_left
 ·(intro w' hSw;(try dsimp only at hSw);go_simp;try with_reducible rfl)
 try simp only[Act.put,lin.sm]
 refine lin.eT 10 (v:=?_) rfl (by kernel_rfl) (fun _ _ _ h=>h) (by rfl) ?_ (by assumption) ?_
 rotate_left
 ·(intro w' hSw;(try dsimp only at hSw);go_simp;try with_reducible rfl)
 try simp only[Act.put,lin.sm]
 refine lin.eT 11 (v:=?_) rfl (by kernel_rfl) (fun _ _ _ h=>h) (by rfl) ?_ (by assumption) ?_
 rotate_left
 ·(intro w' hSw;(try dsimp only at hSw);go_simp;try with_reducible rfl)
 try simp only[Act.put,lin.sm]
 refine wpAnyH_ready (rs:=[9,12]) (by kernel_rfl) (by simp) ?_
 refine AllReadyH.cons rfl (fun K hK=>?_) (AllReadyH.cons rfl (fun K hK=>?_) AllReadyH.nil)
 ·go_simp
  refine hK.out _ (aC w5 g5 (p1*8) ⟨k,m,a,bb,ng,na,ka,kn,kc⟩) True.intro (fun hHeld=>?_)
  clear hK K
  try simp only[Act.put,lin.sm]
  refine wpAnyH_ready (rs:=[12]) (by kernel_rfl) (by simp) ?_
  refine AllReadyH.cons rfl (fun K hK=>?_) AllReadyH.nil
  go_simp
  refine hK.out _ _ True.intro (fun hHeld=>?_)
  clear hK K
  try simp only[Act.put,lin.sm]
  refine wpAnyH_done (by kernel_rfl) ?_ _
  refine NoPanic.normal ?_
  go_end0
  exact⟨rfl,xW.out.2,_,xW.out.1⟩
 ·go_simp
  refine hK.out _ _ True.intro (fun hHeld=>?_)
  clear hK K
  try simp only[Act.put,lin.sm]
  refine wpAnyH_ready (rs:=[9]) (by kernel_rfl) (by simp) ?_
  refine AllReadyH.cons rfl (fun K hK=>?_) AllReadyH.nil
  go_simp
  refine hK.out _ (aC (w5.setCell ⟨g,o+9,none⟩ (.slice (some ⟨g5,0,none⟩) (p1+1) c5)) g5 (p1*8) ⟨k,m,a,bb,ng,na,ka,kn,kc⟩) True.intro (fun hHeld=>?_)
  clear hK K
  try simp only[Act.put,lin.sm]
  refine wpAnyH_done (by kernel_rfl) ?_ _
  refine NoPanic.normal ?_
  rw[mi _ _ _ _ _ _ _ hne]
  go_end0
  exact⟨rfl,xW.out.2,_,xW.out.1⟩
end Go.Proofs.YtgbkolonhddolaaGreatDoor.prs
namespace Go.Proofs.YtgbkolonhddolaaGreatDoor.prs
open Go.RowKit nod tok
open rng(R RV info_parts)
open lin(BA)
variable[gh:Gh]
/--A member more of the innermost class. -/
theorem Sx.addedC{K B:Nat}{w wA w5:World}{pb nx bs d cs' nm bl q cl bv nv}{g cap o g5 n c:Nat}{xs:List Nv}{t:Nd}{x:Nv}(h:Sx K B w pb ⟨nx,bs,d::cs',nm⟩ bl (q::cl) bv (.slice (some ⟨g,0,none⟩) (cl.length+1) cap) nv)
  (hx:Fz (Dd B w (rowsOf bl bs (q::cl) (d::cs'))) w t (a8 x))(hA:Below w.heap.size w wA)(hr:RN (Dd B w (rowsOf bl bs (q::cl) (d::cs'))) w xs d.mem)(hn:d.mem.length=n)
  (h5:w5.ownsRow B 26 8 (.slice (some ⟨g5,0,none⟩) (n+1) c) (n+1) (bI xs++c8 z0))(hg:wA.grownBy w5 (Value.slice q.mem.1 q.mem.2.1 q.mem.2.2).ownBlock)(hat:(Value.slice q.mem.1 q.mem.2.1 q.mem.2.2).ownBlock=some g5∨g5=wA.heap.size)(ho:cl.length*11=o):
  (Sx (K+1) B ((aC w5 g5 (n*8) x).setCell ⟨g,o+10,none⟩ (.slice (some ⟨g5,0,none⟩) (n+1) c)) pb ⟨nx,bs,⟨d.neg,d.mode,d.left,d.mem++[t]⟩::cs',nm⟩ bl ({q with mem:=(some ⟨g5,0,none⟩,n+1,c)}::cl) bv (.slice (some ⟨g,0,none⟩) (cl.length+1) cap) nv∧
  Below B w ((aC w5 g5 (n*8) x).setCell ⟨g,o+10,none⟩ (.slice (some ⟨g5,0,none⟩) (n+1) c)))∧
  (∀j u,(c8 z0)[j]?=some u→w5.cell? ⟨g5,n*8+j,none⟩=some u)∧(∀j,w5.frozen? ⟨g5,j,none⟩=false)∧
  (aC w5 g5 (n*8) x).cell? ⟨g,o+10,none⟩=some (.slice q.mem.1 q.mem.2.1 q.mem.2.2)∧(aC w5 g5 (n*8) x).frozen? ⟨g,o+10,none⟩=false∧w5.cell? ⟨g,o+10,none⟩=some (.slice q.mem.1 q.mem.2.1 q.mem.2.2)∧w5.frozen? ⟨g,o+10,none⟩=false∧g≠g5:=by
 subst ho
 obtain⟨ys,h0,_⟩:=h.rows.each (.slice q.mem.1 q.mem.2.1 q.mem.2.2,d.mem) (by simp[rowsOf,rowsC])
 simp only[hn]at h0
 obtain⟨o8,KH,hN,hc,hf⟩:=grew x hA h0 (hr.1.trans hn) h5 hg hat
 have hpx:=(h.px.below hA).grown KH hN
 obtain⟨g',cap',e,hBg,hgl,_,_,hcell,hfro⟩:=hpx.class
 simp only[Value.slice.injEq,Option.some.injEq,Addr.mk.injEq,and_true,true_and]at e
 obtain⟨rfl,rfl⟩:=e
 have KF:=(h.px.below hA).grown hg hN
 obtain⟨g',cap',e,_,_,_,_,hcell',zO⟩:=KF.class
 simp only[Value.slice.injEq,Option.some.injEq,Addr.mk.injEq,and_true,true_and]at e
 obtain⟨rfl,rfl⟩:=e
 obtain⟨hp2,hu2⟩:=hpx.cO {q with mem:=(some ⟨g5,0,none⟩,n+1,c)} 10 _ (.slice (some ⟨g5,0,none⟩) (n+1) c) rfl rfl
 have hat':(Value.slice (some ⟨g5,0,none⟩) (n+1) c).ownBlock=(Value.slice q.mem.1 q.mem.2.1 q.mem.2.2).ownBlock∨∀y,(Value.slice (some ⟨g5,0,none⟩) (n+1) c).ownBlock=some y→w.heap.size≤y:=by
  rcases hat with e|e
  ·exact .inl e.symm
  ·exact .inr fun y e'=>by
    have:=Option.some.inj e'
    have:=hA.size
    simp only at*
    omega
 have hl1:(d.mem++[t]).length=n+1:=by simp[hn]
 obtain⟨hrw,hfz⟩:=h.rows.mH (rs':=rowsOf bl bs ({q with mem:=(some ⟨g5,0,none⟩,n+1,c)}::cl) (⟨d.neg,d.mode,d.left,d.mem++[t]⟩::cs')) List.perm_middle List.perm_middle ((NU.of_below hA).trans (NU.aF KH)) hat' (by rw[hl1];exact o8) (hr.snoc hx)
 refine⟨⟨⟨hp2,h.br,?_,hrw.nu hu2,by have:=h.lb;omega,by have:=h.lc;simp only[List.length_cons]at*;omega,by have:=h.ln;simp only at*;omega,fun r hr=>?_⟩,?_⟩,hc,hf,hcell 10 _ rfl,hfro _,hcell' 10 _ rfl,zO _,?_⟩
 ·have hcx:=h.cx.imp fun t u f=>(hfz t u f).nu hu2
  cases hcx with
  |cons _ _ _ _ e1 e2 hi e3 hr=>exact .cons _ _ _ _ e1 e2 hi e3 hr
 ·have hlr:∀r∈rowsOf bl bs (q::cl) (d::cs'),r.2.length≤K:=h.lr
  simp only[rowsOf,rowsC,List.mem_append,List.mem_cons]at hr hlr
  rcases hr with hr|rfl|hr
  ·have:=hlr r (.inl hr);omega
  ·have:=hlr _ (.inr (.inl rfl));rw[hl1];simp only[hn]at this;omega
  ·have:=hlr r (.inr (.inr hr));omega
 ·have fF:B≤w.heap.size:=by
   obtain⟨g',cap',e,hBg,hgl,_⟩:=h.px.class
   omega
  exact((ae hA fF).trans (Below.aF KH (by have:=hA.size;omega) fun k e=>(h0.lt k e).1)).setCell (by exact hBg) _
 ·rintro rfl
  exact bT hpx.co (by decide) rfl (lh.own o8 rfl)
theorem LZ{K B:Nat}{w:World}{pb nx bs d cs' nm bl q cl bv nv}{g cap:Nat}{t:Nd}(k m a bb:Int)(ng:Bool)(na:ByteArray)(ka:Option Addr)(kn kc:Nat)(h:Sx K B w pb ⟨nx,bs,d::cs',nm⟩ bl (q::cl) bv (.slice (some ⟨g,0,none⟩) (cl.length+1) cap) nv)
  (hx:Fz (Dd B w (rowsOf bl bs (q::cl) (d::cs'))) w t (a8 ⟨k,m,a,bb,ng,na,ka,kn,kc⟩))(hKb:K≤100000):
  Calls Tryz.prog 65 #[.pointer (some ⟨g,cl.length*11,none⟩),.agg #[.int .i64 k,.int .i64 m,.int .i64 a,.int .i64 bb,.bool ng,.string na,.slice none 0 0,.slice ka kn kc]] w fun e w'=>e=.returned (.tuple #[])∧Below B w w'∧
   ∃s1,Sx (K+1) B w' pb ⟨nx,bs,⟨d.neg,d.mode,d.left,d.mem++[t]⟩::cs',nm⟩ bl ({q with mem:=s1}::cl) bv (.slice (some ⟨g,0,none⟩) (cl.length+1) cap) nv:=by
 obtain⟨i0,hi,hz0,hz1,hz2⟩:=info_parts ow
 obtain⟨g',cap',e,hBg,hgl,_,_,hcell,hfro⟩:=h.px.class
 simp only[Value.slice.injEq,Option.some.injEq,Addr.mk.injEq,and_true,true_and]at e
 obtain⟨rfl,rfl⟩:=e
 obtain⟨xs,hown,hrn⟩:=h.rows.each (.slice q.mem.1 q.mem.2.1 q.mem.2.2,d.mem) (by simp[rowsOf,rowsC])
 have hlen:=h.lr (.slice q.mem.1 q.mem.2.1 q.mem.2.2,d.mem) (by simp[rowsOf,rowsC])
 obtain⟨n,hn⟩:∃n,d.mem.length=n:=⟨_,rfl⟩
 simp only[hn]at hown hlen
 have x9:=hcell 10 _ rfl
 have f9:=hfro (cl.length*11+10)
 have HH:=uC h
 have HX:=uC hx
 have HR:=uC hrn
 have HN:Hid (d.mem.length=n):=hn
 obtain⟨o,ho⟩:∃o,cl.length*11=o:=⟨_,rfl⟩
 have HO:Hid (cl.length*11=o):=ho
 rw[ho]at x9 f9⊢
 obtain⟨L,hL⟩:∃L,cl.length+1=L:=⟨_,rfl⟩
 have HLL:Hid (cl.length+1=L):=hL
 obtain⟨⟨p0,p1,p2⟩,hpt⟩:∃p,q.mem=p:=⟨_,rfl⟩
 rw[hpt]at hown x9
 obtain rfl:p1=n:=by
  rcases hown.2 with⟨e,h0⟩|⟨g1,c1,Lj,e,_⟩
  ·simp only[Value.slice.injEq]at e;omega
  ·simp only[Value.slice.injEq]at e;exact e.2.1
 have IK:Hid (q.mem=(p0,p1,p2)):=hpt
 have BX:Bk (w.alloc (.cells #[.int .i64 k,.int .i64 m,.int .i64 a,.int .i64 bb,.bool ng,.string na,.slice none 0 0,.slice ka kn kc] 26)) w.heap.size #[.int .i64 k,.int .i64 m,.int .i64 a,.int .i64 bb,.bool ng,.string na,.slice none 0 0,.slice ka kn kc] 26:=Bk.new w _ _
 have B1:Below w.heap.size w (w.alloc (.cells #[.int .i64 k,.int .i64 m,.int .i64 a,.int .i64 bb,.bool ng,.string na,.slice none 0 0,.slice ka kn kc] 26)):=(Below.refl _ w).alloc (Nat.le_refl _) _
 have hz:(w.alloc (.cells #[.int .i64 k,.int .i64 m,.int .i64 a,.int .i64 bb,.bool ng,.string na,.slice none 0 0,.slice ka kn kc] 26)).heap.size=w.heap.size+1:=by simp
 have x9:=(B1.cell (p:=⟨g,o+10,none⟩) hgl).trans x9
 have f9:=(World.frozen?_of_block (a:=⟨g,o+10,none⟩) (B1.block g hgl)).trans f9
 obtain⟨w1,hw1⟩:∃w1,w.alloc (.cells #[.int .i64 k,.int .i64 m,.int .i64 a,.int .i64 bb,.bool ng,.string na,.slice none 0 0,.slice ka kn kc] 26)=w1:=⟨_,rfl⟩
 have HW1:=uC hw1
 rw[hw1]at BX B1 hz x9 f9
 have l0:=BX.cell 0 (u:=.int .i64 k) rfl
 have l1:=BX.cell 1 (u:=.int .i64 m) rfl
 have l2:=BX.cell 2 (u:=.int .i64 a) rfl
 have l3:=BX.cell 3 (u:=.int .i64 bb) rfl
 have l4:=BX.cell 4 (u:=.bool ng) rfl
 have l5:=BX.cell 5 (u:=.string na) rfl
 have l6:=BX.cell 6 (u:=.slice none 0 0) rfl
 have l7:=BX.cell 7 (u:=.slice ka kn kc) rfl
 have BW:Below w1.heap.size w1 (w1.drew.alloc (.cells #[.int .i64 0,.int .i64 0,.int .i64 0,.int .i64 0,.bool false,.string ⟨#[]⟩,.slice none 0 0,.slice none 0 0] 26)):=((Below.refl _ w1).drew).alloc (Nat.le_refl _) _
 have jd:Hid (Below w.heap.size w (w1.drew.alloc (.cells #[.int .i64 0,.int .i64 0,.int .i64 0,.int .i64 0,.bool false,.string ⟨#[]⟩,.slice none 0 0,.slice none 0 0] 26))):=B1.trans (ae BW (by omega))
 have x9':=(BW.cell (p:=⟨g,o+10,none⟩) (by show g<w1.heap.size;omega)).trans x9
 have BY:Bk (w1.drew.alloc (.cells #[.int .i64 0,.int .i64 0,.int .i64 0,.int .i64 0,.bool false,.string ⟨#[]⟩,.slice none 0 0,.slice none 0 0] 26)) w.heap.size #[.int .i64 k,.int .i64 m,.int .i64 a,.int .i64 bb,.bool ng,.string na,.slice none 0 0,.slice ka kn kc] 26:=BX.on BW
 have HOW:=uC (rng.own_below' (rng.own_below' hown B1) BW)
 have yB:Hid (∀(j:Nat)u,(c8 z0)[j]?=some u→(w1.drew.alloc (.cells #[.int .i64 0,.int .i64 0,.int .i64 0,.int .i64 0,.bool false,.string ⟨#[]⟩,.slice none 0 0,.slice none 0 0] 26)).cell? ((⟨w1.heap.size,0,none⟩:Addr).add j)=some u):=fun j u hj=>by
  have b4:Bk (w1.drew.alloc (.cells #[.int .i64 0,.int .i64 0,.int .i64 0,.int .i64 0,.bool false,.string ⟨#[]⟩,.slice none 0 0,.slice none 0 0] 26)) w1.heap.size #[.int .i64 0,.int .i64 0,.int .i64 0,.int .i64 0,.bool false,.string ⟨#[]⟩,.slice none 0 0,.slice none 0 0] 26:=Bk.new w1.drew _ _
  rw[Addr.add_lit]
  have:=b4.cell j (u:=u) (by simpa[c8,z0]using hj)
  simpa using this
 have wI:Hid (p1+1≤maxLen):=by unfold Hid maxLen;omega
 have wF:Hid ((p1+1)*104≤140737488355328):=by unfold Hid;omega
 have HBs:Hid (B≤w1.heap.size):=by unfold Hid;omega
 clear hown hrn hn hlen hcell hfro ho hL hpt hw1 h hx BX
 go_enter Tryz.func65,Tryz.ntmps65
 go_upto_region 1 with fail
 rw[HW1.out]
 refine wp_region_noPanic ?_
 refine aZ 7 (fun w'=>w'.cell? ⟨g,o+10,none⟩=some (.slice p0 p1 p2)∧w'.cell? ⟨w.heap.size,0,none⟩=some (.int .i64 k)∧w'.cell? ⟨w.heap.size,1,none⟩=some (.int .i64 m)∧w'.cell? ⟨w.heap.size,2,none⟩=some (.int .i64 a)∧w'.cell? ⟨w.heap.size,3,none⟩=some (.int .i64 bb)∧w'.cell? ⟨w.heap.size,4,none⟩=some (.bool ng)∧w'.cell? ⟨w.heap.size,5,none⟩=some (.string na)∧w'.cell? ⟨w.heap.size,6,none⟩=some (.slice none 0 0)∧w'.cell? ⟨w.heap.size,7,none⟩=some (.slice ka kn kc)) (by kernel_rfl) ⟨x9,l0,l1,l2,l3,l4,l5,l6,l7⟩ (fun hHeld=>?_)
 refine gH 0 (v:=?_) rfl (by kernel_rfl) (fun _ _ _ h=>h) (by rfl) ?_ (by assumption) ?_
 rotate_left
 ·(intro w' hSw;(try dsimp only at hSw);go_simp;try with_reducible rfl)
 try simp only[Act.put,lin.sm]
 refine gH 1 (v:=?_) rfl (by kernel_rfl) (fun _ _ _ h=>h) (by rfl) ?_ (by assumption) ?_
 rotate_left
 ·(intro w' hSw;(try dsimp only at hSw);go_simp;try with_reducible rfl)
 try simp only[Act.put,lin.sm]
 refine gH 2 (v:=?_) rfl (by kernel_rfl) (fun _ _ _ h=>h) (by rfl) ?_ (by assumption) ?_
 rotate_left
 ·(intro w' hSw;(try dsimp only at hSw);go_simp;try with_reducible rfl)
 try simp only[Act.put,lin.sm]
 refine gH 3 (v:=?_) rfl (by kernel_rfl) (fun _ _ _ h=>h) (by rfl) ?_ (by assumption) ?_
 rotate_left
 ·(intro w' hSw;(try dsimp only at hSw);go_simp;try with_reducible rfl)
 try simp only[Act.put,lin.sm]
 refine gH 4 (v:=?_) rfl (by kernel_rfl) (fun _ _ _ h=>h) (by rfl) ?_ (by assumption) ?_
 rotate_left
 ·(intro w' hSw;(try dsimp only at hSw);go_simp;try with_reducible rfl)
 try simp only[Act.put,lin.sm]
 refine gH 5 (v:=?_) rfl (by kernel_rfl) (fun _ _ _ h=>h) (by rfl) ?_ (by assumption) ?_
 rotate_left
 ·(intro w' hSw;(try dsimp only at hSw);go_simp;try with_reducible rfl)
 try simp only[Act.put,lin.sm]
 refine aG (j:=6) (by kernel_rfl) (by decide) rfl (fun K hK=>?_)
 go_simp
 refine hK.out _ _ ?_ (fun hHeld=>?_)
 ·exact⟨x9',BY.cell 0 rfl,BY.cell 1 rfl,BY.cell 2 rfl,BY.cell 3 rfl,BY.cell 4 rfl,BY.cell 5 rfl,BY.cell 6 rfl,BY.cell 7 rfl⟩
 clear hK K
 try simp only[Act.put,lin.sm]
 refine aU (by kernel_rfl) rfl (fun K hK=>?_)
 refine step_append_lies _ rfl _ _ 24 rfl B 26 i0 (.agg #[.int .i64 0,.int .i64 0,.int .i64 0,.int .i64 0,.bool false,.string ⟨#[]⟩,.slice none 0 0,.slice none 0 0]) 8 104 Tryz.underlying24 hi hz0 hz1 hz2 rfl (by decide) (.slice p0 p1 p2) p1 (bI xs) (by simp[Act.eval,Act.put]) HOW.out ⟨w1.heap.size,0,none⟩ 1 1 (c8 z0) (by simp[Act.eval,Act.put]) rfl yB.out (tK z0) (by decide) wI.out wF.out (by simp;exact Nat.le_succ_of_le HBs.out) _ rfl ?_
 intro g5 c5 w5 hown5 bQ kU Ct
 obtain⟨HD,hc,hf,q9,r9,q9',r9',hne⟩:=HH.out.addedC HX.out jd.out HR.out HN.out hown5 (by rw[IK.out];exact bQ) (by rw[IK.out];exact kU) HO.out
 rw[IK.out]at q9 q9'
 have xW:Hid (_∧_):=HD
 clear hown5 bQ kU HD
 have y0:=hc 0 _ rfl
 have y1:=hc 1 _ rfl
 have y2:=hc 2 _ rfl
 have y3:=hc 3 _ rfl
 have y4:=hc 4 _ rfl
 have y5:=hc 5 _ rfl
 have y6:=hc 6 _ rfl
 have y7:=hc 7 _ rfl
 have v0:=hf (p1*8+0)
 have v1:=hf (p1*8+1)
 have v2:=hf (p1*8+2)
 have v3:=hf (p1*8+3)
 have v4:=hf (p1*8+4)
 have v5:=hf (p1*8+5)
 have v6:=hf (p1*8+6)
 have v7:=hf (p1*8+7)
 simp only[Nat.add_zero]at y0 v0
 clear hc hf
 have hidx:((p1:Nat):Int)<(p1:Int)+1:=by omega
 have hne':=Ne.symm hne
 refine hK.out _ _ ?_
 clear hK K
 try simp only[Act.put,lin.sm]
 refine wpAny_of_held (S:=fun _=>True) _ _ _ _ ?_
 have hHeld:=True.intro
 refine lin.eT 8 (v:=?_) rfl (by kernel_rfl) (fun _ _ _ h=>h) (by rfl) ?_ (by assumption) ?_
 rotate_left
 ·(intro w' hSw;(try dsimp only at hSw);go_simp;try with_reducible rfl)
 try simp only[Act.put,lin.sm]
 refine lin.eT 10 (v:=?_) rfl (by kernel_rfl) (fun _ _ _ h=>h) (by rfl) ?_ (by assumption) ?_
 rotate_left
 ·(intro w' hSw;(try dsimp only at hSw);go_simp;try with_reducible rfl)
 try simp only[Act.put,lin.sm]
 refine lin.eT 11 (v:=?_) rfl (by kernel_rfl) (fun _ _ _ h=>h) (by rfl) ?_ (by assumption) ?_
 rotate_left
 ·(intro w' hSw;(try dsimp only at hSw);go_simp;try with_reducible rfl)
 try simp only[Act.put,lin.sm]
 refine wpAnyH_ready (rs:=[9,12]) (by kernel_rfl) (by simp) ?_
 refine AllReadyH.cons rfl (fun K hK=>?_) (AllReadyH.cons rfl (fun K hK=>?_) AllReadyH.nil)
 ·go_simp
  refine hK.out _ (aC w5 g5 (p1*8) ⟨k,m,a,bb,ng,na,ka,kn,kc⟩) True.intro (fun hHeld=>?_)
  clear hK K
  try simp only[Act.put,lin.sm]
  refine wpAnyH_ready (rs:=[12]) (by kernel_rfl) (by simp) ?_
  refine AllReadyH.cons rfl (fun K hK=>?_) AllReadyH.nil
  go_simp
  refine hK.out _ _ True.intro (fun hHeld=>?_)
  clear hK K
  try simp only[Act.put,lin.sm]
  refine wpAnyH_done (by kernel_rfl) ?_ _
  refine NoPanic.normal ?_
  go_end0
  exact⟨rfl,xW.out.2,_,xW.out.1⟩
 ·go_simp
  refine hK.out _ _ True.intro (fun hHeld=>?_)
  clear hK K
  try simp only[Act.put,lin.sm]
  refine wpAnyH_ready (rs:=[9]) (by kernel_rfl) (by simp) ?_
  refine AllReadyH.cons rfl (fun K hK=>?_) AllReadyH.nil
  go_simp
  refine hK.out _ (aC (w5.setCell ⟨g,o+10,none⟩ (.slice (some ⟨g5,0,none⟩) (p1+1) c5)) g5 (p1*8) ⟨k,m,a,bb,ng,na,ka,kn,kc⟩) True.intro (fun hHeld=>?_)
  clear hK K
  try simp only[Act.put,lin.sm]
  refine wpAnyH_done (by kernel_rfl) ?_ _
  refine NoPanic.normal ?_
  rw[mi _ _ _ _ _ _ _ hne]
  go_end0
  exact⟨rfl,xW.out.2,_,xW.out.1⟩
end Go.Proofs.YtgbkolonhddolaaGreatDoor.prs
