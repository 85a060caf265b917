import Derived.Test.YtbbeciofgnkggaaGreatDoorBqTre1
import Derived.Lib.ConvBytes
import Derived.Test.YtbbeciofgnkggaaGreatDoorBqTok7
import Derived.Test.YtbbeciofgnkggaaGreatDoorBqUpS1
import Derived.Test.YtbbeciofgnkggaaGreatDoorBqNod1
set_option linter.unusedSimpArgs false
set_option linter.unusedVariables false
set_option maxRecDepth 10000
set_option maxHeartbeats 16000000
namespace Go.Proofs.YtbbeciofgnkggaaGreatDoor.tre
open Go.RowKit nod
open rng(R RV)
open tok(PEnv TX printL)
theorem opSize{m:Int}(h:m=1∨m=2∨m=3):(textP m opTexts).size=2:=by
 rcases h with rfl|rfl|rfl<;>decide
theorem dep3{t:Nd}(h:t.kind=3):depN t=depL (sided 3 t.mode) t.kids+1∧grpN t=grpL t.kids:=by
 obtain⟨k,m,a,b,g,n,s,ks⟩:=t
 simp only[Nd.kind]at h
 subst h
 rw[depN,grpN,show brack 3=true by decide,if_pos rfl,if_neg (by omega)]
 exact⟨rfl,by simp[Nd.kids]⟩
/--What inside comes to. -/
abbrev InsRun(ins:Wr→Nd→Option Wr):Prop:=∀t s s',ins s t=some s'→Gd s→Run s s' (grpL t.kids) (depL (sided 3 t.mode) t.kids)
theorem class_run{ins:Wr→Nd→Option Wr}(hi:InsRun ins){s s':Wr}{t:Nd}(h:classO ins s t=some s')(hk:t.kind=3)(g:Gd s):Run s s' (grpN t) (depN t):=by
 unfold classO at h
 obtain⟨s1,h1,h⟩:=bind_some h
 obtain⟨s2,h2,h3⟩:=bind_some h
 have e:=enter_gd h1 g
 have r:=brack_run h1 (hi t s1 s2 h2 e.1) h3 g
 rw[(dep3 hk).1,(dep3 hk).2]
 exact r
theorem prop_run{s s':Wr}{n:ByteArray}{neg:Bool}(h:propO s n neg=some s')(g:Gd s):Run s s' 0 0:=by
 unfold propO at h
 split at h
 ·exact put_run h g
 ·cases h
theorem range_run{s s':Wr}{a b:Int}(h:rangeO s a b=some s')(g:Gd s):Run s s' 0 0:=by
 unfold rangeO at h
 split at h
 ·obtain⟨s1,h1,h⟩:=bind_some h
  obtain⟨s2,h2,h3⟩:=bind_some h
  have r1:=put_run h1 g
  have r2:=put_run h2 r1.gd
  have r3:=put_run h3 r2.gd
  exact((r1.trans r2).trans r3).to (by omega) (by omega)
 ·cases h
theorem leafRun{s s':Wr}{t:Nd}(r:Run s s' 0 0)(h:othersZ t=true)(hk:may t.kind 32=false)(h1:t.kind≠9)(h2:brack t.kind=false):Run s s' (grpN t) (depN t):=by
 obtain⟨e1,e2⟩:=leaf_zero (no_kids h hk) h1 h2
 rw[e1,e2];exact r
theorem member_run{ins:Wr→Nd→Option Wr}(hi:InsRun ins)(t:Nd)(s s':Wr)(h:memberO ins s t=some s')(g:Gd s):Run s s' (grpN t) (depN t):=by
 unfold memberO at h
 split at h
 ·cases h
 have ho:othersZ t=true:=by simpa using(by assumption:¬othersZ t=false)
 split at h
 ·rename_i hk;exact leafRun (put_run h g) ho (by rw[hk];decide+kernel) (by omega) (by rw[hk];decide)
 split at h
 ·rename_i hk;exact leafRun (range_run h g) ho (by rw[hk];decide+kernel) (by omega) (by rw[hk];decide)
 split at h
 ·rename_i hk;exact leafRun (prop_run h g) ho (by rw[hk];decide+kernel) (by omega) (by rw[hk];decide)
 split at h
 ·rename_i hk;exact class_run hi h hk g
 ·cases h
theorem side_kind{t:Nd}(h:sideB t=true):t.kind=3:=by
 obtain⟨k,m,a,b,g,n,s,ks⟩:=t
 simp only[sideB,Bool.and_eq_true,beq_iff_eq]at h
 exact h.1.1
theorem inside_run:∀N:Nat,InsRun (insideO N)
 |0=>fun t s s' h _=>by rw[insideO]at h;cases h
 |N+1=>fun t s s' h g=>by
  rw[insideO]at h
  split at h
  ·rename_i hm
   split at h
   ·cases h
   ·obtain⟨G,D,r,hG,h0,hD⟩:=loop_run (member_run (inside_run N)) t.kids s s' h g
    rw[hm,show sided 3 0=false by decide,grpL_sum]
    refine r.to hG (depL_le false D h0 _ fun x hx=>?_)
    have:=hD x hx
    simp
    exact this
  ·split at h
   ·rename_i hm
    have hop:=opSize hm
    have hsd:sided 3 t.mode=true:=by rcases hm with h|h|h<;>rw[h]<;>decide
    rw[hsd]
    generalize t.kids=ks at*
    match ks,h with
    |[l,r],h=>
     simp only[sidesO]at h
     split at h
     ·rename_i hc
      obtain⟨c1,c2,c3,c4⟩:=hc
      obtain⟨s1,h1,h2⟩:=bind_some h
      obtain⟨⟨r0,r1,d0,d1,g0,g1,n1⟩,n⟩:=g
      have gl:Gd (s.less 2):=⟨⟨by show 0≤s.room-2;omega,by show(s.text.length:Int)+(s.room-2)≤2000;omega,d0,d1,g0,g1,n1⟩,n⟩
      have q1:=inside_run N l _ _ h1 gl
      have es:(s1.text.length:Int)+s1.room=s.text.length+(s.room-2):=q1.sum
      obtain⟨⟨a0,a1,a2,a3,a4,a5,a6⟩,a7⟩:=q1.gd
      have al:=add_len s1 (textP t.mode opTexts)
      have er:(s1.add (textP t.mode opTexts)).room=s1.room:=rfl
      have gr:Gd (s1.add (textP t.mode opTexts)):=⟨⟨a0,by rw[al,er];omega,a2,a3,a4,a5,a6⟩,a7⟩
      have q2:=inside_run N r _ _ h2 gr
      have el:=dep3 (side_kind c1)
      have e2:=dep3 (side_kind c2)
      refine⟨q2.gd,?_,?_,?_,?_⟩
      ·have:=q2.sum;rw[al,er]at this;omega
      ·exact q2.dep.trans q1.dep
      ·have h1:=q2.grp;have h2:=q1.grp
       have e:(s1.add (textP t.mode opTexts)).groups=s1.groups:=rfl
       have e':(s.less 2).groups=s.groups:=rfl
       rw[grpL,grpL,grpL,el.2,e2.2];omega
      ·have h1:=q2.low;have h2:=q1.low;have h3:=q1.dep
       have e:(s1.add (textP t.mode opTexts)).depth=s1.depth:=rfl
       have e':(s.less 2).depth=s.depth:=rfl
       rw[depL,depL,depL,el.1,e2.1,side_kind c1,side_kind c2]
       simp
       omega
     ·cases h
   ·cases h
/--What part comes to. -/
abbrev PartRun(pt:Wr→Nd→Option Wr):Prop:=∀t s s',pt s t=some s'→Gd s→Run s s' (grpN t) (depN t)
theorem flat_dep{t:Nd}{D:Int}(hk:t.kind=6∨t.kind=7)(h0:0≤D)(h:∀x∈t.kids,depN x≤D):depN t≤D∧grpN t=(t.kids.map grpN).sum:=by
 obtain⟨k,m,a,b,g,n,s,ks⟩:=t
 simp only[Nd.kind,Nd.kids]at hk h⊢
 rw[depN,grpN,show brack k=false by rcases hk with rfl|rfl<;>decide,if_neg (by decide),if_neg (by omega),grpL_sum,show sided k m=false by rcases hk with rfl|rfl<;>rfl]
 have:=depL_le false D h0 ks (fun x hx=>by have:=h x hx;simp;exact this)
 exact⟨by omega,by omega⟩
theorem seq_run{pt:Wr→Nd→Option Wr}(hp:PartRun pt){s s':Wr}{t:Nd}(h:seqO pt s t=some s')(g:Gd s):Run s s' (grpN t) (depN t):=by
 unfold seqO at h
 split at h
 ·rename_i hk
  obtain⟨G,D,r,hG,h0,hD⟩:=loop_run hp t.kids s s' h g
  obtain⟨e1,e2⟩:=flat_dep (.inl hk.1) h0 hD
  exact r.to (by rw[hG,e2]) e1
 ·cases h
theorem bar_run{pt:Wr→Nd→Option Wr}(hp:PartRun pt)(t:Nd)(s s':Wr)(h:barO pt s t=some s')(g:Gd s):Run s s' (grpN t) (depN t):=by
 unfold barO at h
 obtain⟨s1,h1,h2⟩:=bind_some h
 have r1:=put_run h1 g
 exact(r1.trans (seq_run hp h2 r1.gd)).to (by omega) (by omega)
theorem body_run{pt:Wr→Nd→Option Wr}(hp:PartRun pt){s s':Wr}{t:Nd}(h:bodyO pt s t=some s')(g:Gd s):Run s s' (grpN t) (depN t):=by
 unfold bodyO at h
 split at h
 ·exact seq_run hp h g
 split at h
 ·rename_i hk
  unfold altO at h
  split at h
  ·split at h
   ·rename_i x xs hks
    obtain⟨s1,h1,h2⟩:=bind_some h
    have r1:=seq_run hp h1 g
    obtain⟨G,D,r,hG,h0,hD⟩:=loop_run (bar_run hp) xs s1 s' h2 r1.gd
    obtain⟨e1,e2⟩:=flat_dep (t:=t) (D:=max (depN x) D) (.inr hk) (by omega) (by
     rw[hks]
     intro y hy
     rcases List.mem_cons.1 hy with rfl|hy
     ·omega
     ·have:=hD y hy;omega)
    exact(r1.trans r).to (by rw[e2,hks,hG];simp) e1
   ·cases h
  ·cases h
 ·cases h
theorem encl_run{pt:Wr→Nd→Option Wr}(hp:PartRun pt){s s':Wr}{op:ByteArray}{ks:List Nd}(h:enclO pt op s ks=some s')(g:Gd s):∃t,ks=[t]∧Run s s' (grpN t) (depN t+1):=by
 match ks,h with
 |[t],h=>
  simp only[enclO]at h
  obtain⟨s1,h1,h⟩:=bind_some h
  obtain⟨s2,h2,h3⟩:=bind_some h
  have e:=enter_gd h1 g
  exact⟨t,rfl,brack_run h1 (body_run hp h2 e.1) h3 g⟩
theorem one_kid{t x:Nd}(hk:t.kids=[x]):grpN t=(if t.kind=9∧0<t.a then 1 else 0)+grpN x∧depN t≤depN x+(if brack t.kind=true then 1 else 0):=by
 obtain⟨k,m,a,b,g,n,s,ks⟩:=t
 simp only[Nd.kids]at hk
 subst hk
 have:=dep_bounds _ x (Nat.le_refl _)
 rw[grpN,depN,grpL,grpL,depL,depL]
 show(if k=9∧0<a then 1 else 0)+(grpN x+0)=(if k=9∧0<a then 1 else 0)+grpN x∧max (depN x-if(x.kind==3&&sided k m)=true then 1 else 0) 0+(if brack k=true then 1 else 0)≤depN x+(if brack k=true then 1 else 0)
 refine⟨by omega,?_⟩
 generalize(if brack k=true then(1:Int)else 0)=u
 obtain⟨v,hv⟩:∃v,(if(x.kind==3&&sided k m)=true then(1:Int)else 0)=v:=⟨_,rfl⟩
 rw[hv]
 have:0≤v:=by rw[←hv];split<;>omega
 omega
theorem grp_gd{s:Wr}(g:Gd s)(h:s.groups+1≤20):Gd s.grp:=by
 obtain⟨⟨r0,r1,d0,d1,g0,g1,n1⟩,n⟩:=g
 exact⟨⟨r0,r1,d0,d1,by show 0≤s.groups+1;omega,h,n1⟩,by show(s.names.length:Int)≤s.groups+1;omega⟩
theorem nam_gd{s:Wr}(g:Gd s)(h:s.groups+1≤20)(n:ByteArray):Gd (s.grp.nam n):=by
 obtain⟨⟨r0,r1,d0,d1,g0,g1,n1⟩,hn⟩:=g
 have e:(s.grp.nam n).names.length=s.names.length+1:=by simp[Wr.nam,Wr.grp]
 exact⟨⟨r0,r1,d0,d1,by show 0≤s.groups+1;omega,h,by rw[e];omega⟩,by rw[e];show((s.names.length+1:Nat):Int)≤s.groups+1;omega⟩
theorem Run.from{a a' b:Wr}{g d k:Int}(h:Run a' b g d)(e1:(a'.text.length:Int)+a'.room=a.text.length+a.room)(e2:a'.depth=a.depth)(e3:a'.groups=a.groups+k):Run a b (k+g) d:=
 ⟨h.gd,h.sum.trans e1,h.dep.trans e2,by have:=h.grp;omega,by have:=h.low;omega⟩
theorem group_run{pt:Wr→Nd→Option Wr}(hp:PartRun pt){s s':Wr}{t:Nd}(hk:t.kind=9)(h:groupO pt s t=some s')(g:Gd s):Run s s' (grpN t) (depN t):=by
 have hb:brack t.kind=true:=by rw[hk];decide
 unfold groupO at h
 split at h
 ·rename_i hc
  obtain⟨x,hx,r⟩:=encl_run hp h g
  obtain⟨e1,e2⟩:=one_kid hx
  rw[if_neg (by omega)]at e1
  rw[if_pos hb]at e2
  exact r.to (by omega) e2
 split at h
 ·cases h
 rename_i hc hd
 have ha:t.a=s.groups+1∧t.a≤20:=by omega
 have h0:=g.g.g0
 split at h
 ·obtain⟨x,hx,r⟩:=encl_run hp h (grp_gd g (by omega))
  obtain⟨e1,e2⟩:=one_kid hx
  rw[if_pos ⟨hk,by omega⟩]at e1
  rw[if_pos hb]at e2
  exact(Run.from (a:=s) (k:=1) r rfl rfl rfl).to (by omega) e2
 split at h
 ·obtain⟨x,hx,r⟩:=encl_run hp h (nam_gd g (by omega) _)
  obtain⟨e1,e2⟩:=one_kid hx
  rw[if_pos ⟨hk,by omega⟩]at e1
  rw[if_pos hb]at e2
  exact(Run.from (a:=s) (k:=1) r rfl rfl rfl).to (by omega) e2
 ·cases h
theorem repeat_run{pt:Wr→Nd→Option Wr}(hp:PartRun pt){s s':Wr}{t:Nd}(hk:t.kind=8)(h:repeatO pt s t=some s')(g:Gd s):Run s s' (grpN t) (depN t):=by
 unfold repeatO at h
 split at h
 ·rename_i x hx
  split at h
  ·obtain⟨s1,h1,h2⟩:=bind_some h
   have r1:=hp x s s1 h1 g
   have r2:=put_run h2 r1.gd
   obtain⟨e1,e2⟩:=one_kid hx
   rw[if_neg (by omega)]at e1
   rw[hk,if_neg (by decide)]at e2
   exact(r1.trans r2).to (by omega) (by omega)
  ·cases h
 ·cases h
theorem part_run:∀N:Nat,PartRun (partO N)
 |0=>fun t s s' h _=>by rw[partO]at h;cases h
 |N+1=>fun t s s' h g=>by
  rw[partO]at h
  by_cases hz:othersZ t=false
  ·rw[if_pos hz]at h;cases h
  rw[if_neg hz]at h
  have ho:othersZ t=true:=by simpa using hz
  clear hz
  by_cases hk:t.kind=1
  ·rw[if_pos hk]at h
   exact leafRun (put_run h g) ho (by rw[hk];decide+kernel) (by omega) (by rw[hk];decide)
  rw[if_neg hk]at h
  clear hk
  by_cases hk:t.kind=2
  ·rw[if_pos hk]at h
   exact leafRun (put_run h g) ho (by rw[hk];decide+kernel) (by omega) (by rw[hk];decide)
  rw[if_neg hk]at h
  clear hk
  by_cases hk:t.kind=3
  ·rw[if_pos hk]at h
   exact class_run (inside_run N) h hk g
  rw[if_neg hk]at h
  clear hk
  by_cases hk:t.kind=5
  ·rw[if_pos hk]at h
   exact leafRun (prop_run h g) ho (by rw[hk];decide+kernel) (by omega) (by rw[hk];decide)
  rw[if_neg hk]at h
  clear hk
  by_cases hk:t.kind=8
  ·rw[if_pos hk]at h
   exact repeat_run (part_run N) hk h g
  rw[if_neg hk]at h
  clear hk
  by_cases hk:t.kind=9
  ·rw[if_pos hk]at h
   exact group_run (part_run N) hk h g
  rw[if_neg hk]at h
  clear hk
  by_cases hk:t.kind=10
  ·rw[if_pos hk]at h
   obtain⟨x,hx,r⟩:=encl_run (part_run N) h g
   obtain⟨e1,e2⟩:=one_kid hx
   rw[if_neg (by omega)]at e1
   rw[hk,if_pos (by decide)]at e2
   exact r.to (by omega) e2
  rw[if_neg hk]at h
  clear hk
  by_cases hk:t.kind=11
  ·rw[if_pos hk]at h
   obtain⟨x,hx,r⟩:=encl_run (part_run N) h g
   obtain⟨e1,e2⟩:=one_kid hx
   rw[if_neg (by omega)]at e1
   rw[hk,if_pos (by decide)]at e2
   exact r.to (by omega) e2
  rw[if_neg hk]at h
  clear hk
  by_cases hk:t.kind=12
  ·rw[if_pos hk]at h
   exact leafRun (put_run h g) ho (by rw[hk];decide+kernel) (by omega) (by rw[hk];decide)
  rw[if_neg hk]at h
  clear hk
  by_cases hk:t.kind=13
  ·rw[if_pos hk]at h
   by_cases hc:0<t.a∧t.a≤s.groups
   ·rw[if_pos hc]at h
    exact leafRun (put_run h g) ho (by rw[hk];decide+kernel) (by omega) (by rw[hk];decide)
   ·rw[if_neg hc]at h;cases h
  rw[if_neg hk]at h
  clear hk
  by_cases hk:t.kind=14
  ·rw[if_pos hk]at h
   exact leafRun (put_run h g) ho (by rw[hk];decide+kernel) (by omega) (by rw[hk];decide)
  rw[if_neg hk]at h
  clear hk
  cases h
theorem gd00:Gd w00:=⟨⟨by decide,by decide,by decide,by decide,by decide,by decide,by decide⟩,by decide⟩
end Go.Proofs.YtbbeciofgnkggaaGreatDoor.tre
namespace Go.Proofs.YtbbeciofgnkggaaGreatDoor.tre
open Go.RowKit nod
open rng(R RV ret_int ret_bool below_drewN info_parts own_below')
theorem oz_set(k m a b:Int)(g:Bool)(n:ByteArray)(sa:Option Addr)(sl sc:Nat)(ao:Option Addr)(nk cap:Nat)(w:World)(hs:((sl:Int)==0)=false):Calls Tryz.prog 30 #[.agg #[.int .i64 k,.int .i64 m,.int .i64 a,.int .i64 b,.bool g,.string n,.slice sa sl sc,.slice ao nk cap]] w fun e w'=>e=.returned (.bool false)∧Below w.heap.size w w':=by
 have CF:=fields_any k (w.alloc (.cells #[.int .i64 k,.int .i64 m,.int .i64 a,.int .i64 b,.bool g,.string n,.slice sa sl sc,.slice ao nk cap] 25))
 have HB:Hid (Below w.heap.size w ((w.alloc (.cells #[.int .i64 k,.int .i64 m,.int .i64 a,.int .i64 b,.bool g,.string n,.slice sa sl sc,.slice ao nk cap] 25)).alloc (.cells #[.int .u64 (fieldsP k)] 63))):=below2 _ _ _
 generalize fieldsP k=F at*
 go_enter Tryz.func30,Tryz.ntmps30
 go_wp2_with(first|(go_at_call 38;refine CF.mono ?_;rintro e w1⟨rfl,rfl⟩))
 go_ret
 exact⟨rfl,HB.out⟩
theorem oz_x(k m a b:Int)(g:Bool)(n:ByteArray)(sa:Option Addr)(sl sc:Nat)(ao:Option Addr)(nk cap:Nat)(w:World)(q0 q1 q2 q3 q4 q5 c0 c1 c2 c3 c4 c5:Bool)(h0:(m==0)=q0)(h1:(a==0)=q1)(h2:(b==0)=q2)(h3:(!g)=q3)(h4:n.toList.isEmpty=q4)(h5:((nk:Int)==0)=q5)
  (y0:may k 1=c0)(y1:may k 2=c1)(y2:may k 4=c2)(y3:may k 8=c3)(y4:may k 16=c4)(y5:may k 32=c5):Calls Tryz.prog 30 #[.agg #[.int .i64 k,.int .i64 m,.int .i64 a,.int .i64 b,.bool g,.string n,.slice sa 0 sc,.slice ao nk cap]] w fun e w'=>e=.returned (.bool ((q0||c0)&&(q1||c1)&&(q2||c2)&&(q3||c3)&&(q4||c4)&&(q5||c5)))∧Below w.heap.size w w':=by
 have CF:=fields_any k (w.alloc (.cells #[.int .i64 k,.int .i64 m,.int .i64 a,.int .i64 b,.bool g,.string n,.slice sa 0 sc,.slice ao nk cap] 25))
 have HB:Hid (Below w.heap.size w ((w.alloc (.cells #[.int .i64 k,.int .i64 m,.int .i64 a,.int .i64 b,.bool g,.string n,.slice sa 0 sc,.slice ao nk cap] 25)).alloc (.cells #[.int .u64 (fieldsP k)] 63))):=below2 _ _ _
 have hc:((w.alloc (.cells #[.int .i64 k,.int .i64 m,.int .i64 a,.int .i64 b,.bool g,.string n,.slice sa 0 sc,.slice ao nk cap] 25)).alloc (.cells #[.int .u64 (fieldsP k)] 63)).cell? ⟨w.heap.size+1,0,none⟩=some (.int .u64 (fieldsP k)):=bk2.cell 0 rfl
 have M0:=may_any k 1 (w.heap.size+1) _ hc
 rw[y0]at M0
 have M1:=may_any k 2 (w.heap.size+1) _ hc
 rw[y1]at M1
 have M2:=may_any k 4 (w.heap.size+1) _ hc
 rw[y2]at M2
 have M3:=may_any k 8 (w.heap.size+1) _ hc
 rw[y3]at M3
 have M4:=may_any k 16 (w.heap.size+1) _ hc
 rw[y4]at M4
 have M5:=may_any k 32 (w.heap.size+1) _ hc
 rw[y5]at M5
 generalize fieldsP k=F at*
 clear hc y0 y1 y2 y3 y4 y5
 go_enter Tryz.func30,Tryz.ntmps30
 go_wp2_with(first|(go_at_call 38;refine CF.mono ?_;rintro e w1⟨rfl,rfl⟩)|(go_at_call_of 39(Value.int IntKind.u64 1);refine M0.mono ?_;rintro e w1⟨rfl,rfl⟩)|(go_at_call_of 39(Value.int IntKind.u64 2);refine M1.mono ?_;rintro e w1⟨rfl,rfl⟩)|(go_at_call_of 39(Value.int IntKind.u64 4);refine M2.mono ?_;rintro e w1⟨rfl,rfl⟩)|(go_at_call_of 39(Value.int IntKind.u64 8);refine M3.mono ?_;rintro e w1⟨rfl,rfl⟩)|(go_at_call_of 39(Value.int IntKind.u64 16);refine M4.mono ?_;rintro e w1⟨rfl,rfl⟩)|(go_at_call_of 39(Value.int IntKind.u64 32);refine M5.mono ?_;rintro e w1⟨rfl,rfl⟩))
 all_goals(go_ret;exact⟨by simp_all,HB.out⟩)
end Go.Proofs.YtbbeciofgnkggaaGreatDoor.tre
namespace Go.Proofs.YtbbeciofgnkggaaGreatDoor.tre
open Go.RowKit nod
open rng(R RV ret_int ret_bool below_drewN info_parts own_below')
theorem oz_any(k m a b:Int)(g:Bool)(n:ByteArray)(s:List R)(ks:List Nd)(sa:Option Addr)(sl sc:Nat)(ao:Option Addr)(nk cap:Nat)(w:World)(hsl:s.length=sl)(hnk:ks.length=nk):
  Calls Tryz.prog 30 #[.agg #[.int .i64 k,.int .i64 m,.int .i64 a,.int .i64 b,.bool g,.string n,.slice sa sl sc,.slice ao nk cap]] w fun e w'=>e=.returned (.bool (othersZ (.mk k m a b g n s ks)))∧Below w.heap.size w w':=by
 have es:s.isEmpty=decide (sl=0):=by rw[←hsl];cases s<;>simp
 have ek:ks.isEmpty=((nk:Int)==0):=by rw[←hnk];cases ks<;>simp;omega
 rw[othersZ,es,ek]
 clear es ek hsl hnk
 by_cases cs:sl=0
 ·subst cs
  have:=oz_x k m a b g n sa 0 sc ao nk cap w _ _ _ _ _ _ _ _ _ _ _ _ rfl rfl rfl rfl rfl rfl rfl rfl rfl rfl rfl rfl
  simpa using this
 ·rw[show decide (sl=0)=false from decide_eq_false cs]
  simpa using oz_set k m a b g n sa sl sc ao nk cap w (by simpa using cs)
end Go.Proofs.YtbbeciofgnkggaaGreatDoor.tre
namespace Go.Proofs.YtbbeciofgnkggaaGreatDoor.tre
open Go.RowKit nod
open rng(R RV ret_int ret_bool below_drewN info_parts own_below')
open tok(PEnv TX printL)
structure Cx(w0 W:World)(base g:Nat)(s:Wr):Prop where
 c:Ctx w0 W base g s
 gd:Gd s
theorem Cx.on{w0 W W':World}{base g:Nat}{s:Wr}(c:Cx w0 W base g s)(h:Below W.heap.size W W'):Cx w0 W' base g s:=⟨c.c.on h,c.gd⟩
theorem Cx.kt{w0 W W':World}{base g:Nat}{s:Wr}(c:Cx w0 W base g s)(h:Below W.heap.size W W'):Kt base W W':=Kt.of_below h c.c.size
/--A call that tells whether it may be, and writes. -/
def Met(f:FuncId)(args:Array Value)(w0 W:World)(base g:Nat)(P:Option Wr):Prop:=
 Calls Tryz.prog f args W fun e w'=>e=.returned (.bool P.isSome)∧(∀s',P=some s'→Cx w0 w' base g s')∧Kt base W w'
theorem Met.no{f:FuncId}{args:Array Value}{w0 W:World}{base g:Nat}{P:Option Wr}(h:Met f args w0 W base g P)(e:P=none):
  Calls Tryz.prog f args W fun e w'=>e=.returned (.bool false)∧Kt base W w':=by
 subst e
 exact h.mono fun e w'⟨h1,_,h3⟩=>⟨h1,h3⟩
theorem Met.ok{f:FuncId}{args:Array Value}{w0 W:World}{base g:Nat}{P:Option Wr}{s':Wr}(h:Met f args w0 W base g P)(e:P=some s'):
  Calls Tryz.prog f args W fun e w'=>e=.returned (.bool true)∧Cx w0 w' base g s'∧Kt base W w':=by
 subst e
 exact h.mono fun e w'⟨h1,h2,h3⟩=>⟨h1,h2 _ rfl,h3⟩
/--What a caller asks: the same of a world that lies behind its own. -/
theorem Met.of_no{f:FuncId}{args:Array Value}{w0 W:World}{base g:Nat}{P:Option Wr}(e:P=none)(h:Calls Tryz.prog f args W fun e w'=>e=.returned (.bool false)∧Kt base W w'):Met f args w0 W base g P:=by
 subst e
 exact h.mono fun e w'⟨h1,h3⟩=>⟨h1,fun s' e=>(by cases e),h3⟩
theorem Met.of_ok{f:FuncId}{args:Array Value}{w0 W:World}{base g:Nat}{P:Option Wr}{s':Wr}(e:P=some s')(h:Calls Tryz.prog f args W fun e w'=>e=.returned (.bool true)∧Cx w0 w' base g s'∧Kt base W w'):Met f args w0 W base g P:=by
 subst e
 exact h.mono fun e w'⟨h1,h2,h3⟩=>⟨h1,fun s e=>(by cases e;exact h2),h3⟩
/--What a method is at a node. -/
def Con(f:FuncId)(P:Wr→Nd→Option Wr)(t:Nd):Prop:=∀(w0 W:World)(base g:Nat)(s:Wr)(v:Value),Cx w0 W base g s→NV base w0 t v→Met f #[.pointer (some ⟨g,0,none⟩),v] w0 W base g (P s t)
theorem put_met{w0 W:World}{base g:Nat}{s:Wr}(c:Cx w0 W base g s)(t:ByteArray)(ht:t.size≤9223372036854775807):Met 32 #[.pointer (some ⟨g,0,none⟩),.string t] w0 W base g (putO s t):=by
 have C:=put_any base g s t W c.c.wr c.c.r0 c.c.r1 ht
 cases h:putO s t with
 |none=>
  have e:(putP s t).2=false:=by
   unfold putO at h;unfold putP
   split at h
   ·rename_i h1;rw[if_pos h1]
   ·rename_i h1
    split at h
    ·cases h
    ·rename_i h2;rw[if_neg h1,if_neg h2]
  rw[e]at C
  exact Met.of_no rfl (C.mono fun e w'⟨h1,_,h3⟩=>⟨h1,h3⟩)
 |some s'=>
  obtain⟨rfl,hr⟩:=putO_some h
  have h1:¬t.size=0:=by intro e;unfold putO at h;rw[if_pos e]at h;cases h
  have e:putP s t=((s.less t.size).add t,true):=putP_ok h1 (by omega)
  rw[e]at C
  have r:=put_run h c.gd
  exact Met.of_ok rfl (C.mono fun e w'⟨h1,h2,h3⟩=>⟨h1,⟨c.c.to h3 h2 r.gd.g.r0 r.gd.g.r1,r.gd⟩,h3⟩)
theorem enter_met{w0 W:World}{base g:Nat}{s:Wr}(c:Cx w0 W base g s)(t:ByteArray)(ht:t.size≤9223372036854775807):Met 57 #[.pointer (some ⟨g,0,none⟩),.string t] w0 W base g (enterO s t):=by
 have C:=enter_any base g s t W c.c.wr c.gd.g ht
 cases h:enterO s t with
 |none=>
  have e:(enterP s t).2=false:=by
   unfold enterO at h;unfold enterP
   split at h
   ·rename_i h0
    rw[if_pos h0]
    unfold putO at h;unfold putP
    split at h
    ·rename_i h1;rw[if_pos h1]
    ·rename_i h1
     split at h
     ·cases h
     ·rename_i h2;rw[if_neg h1,if_neg h2]
   ·rename_i h0;rw[if_neg h0]
  rw[e]at C
  exact Met.of_no rfl (C.mono fun e w'⟨h1,_,h3⟩=>⟨h1,h3⟩)
 |some s'=>
  obtain⟨a1,a2⟩:=enterO_some h
  have g1:=deep_gd c.gd 1 (by have:=c.gd.g.d0;omega) a1
  have r:=put_run a2 g1
  obtain⟨rfl,hr⟩:=putO_some a2
  have h1:¬t.size=0:=by intro e;unfold putO at a2;rw[if_pos e]at a2;cases a2
  have e:enterP s t=(((s.deep 1).less t.size).add t,true):=by unfold enterP;rw[if_pos a1];exact putP_ok h1 (by omega)
  rw[e]at C
  exact Met.of_ok rfl (C.mono fun e w'⟨h1,h2,h3⟩=>⟨h1,⟨c.c.to h3 h2 r.gd.g.r0 r.gd.g.r1,r.gd⟩,h3⟩)
theorem leave_met{w0 W:World}{base g:Nat}{s:Wr}(c:Cx w0 W base g s)(h1:1≤s.depth)(t:ByteArray)(ht:t.size≤9223372036854775807):Met 59 #[.pointer (some ⟨g,0,none⟩),.string t] w0 W base g (leaveO s t):=by
 have C:=leave_any base g s t W c.c.wr c.gd.g ht
 have g1:=deep_gd c.gd (-1) (by omega) (by have:=c.gd.g.d1;omega)
 unfold leaveP at C
 unfold leaveO
 cases h:putO (s.deep (-1)) t with
 |none=>
  have e:(putP (s.deep (-1)) t).2=false:=by
   unfold putO at h;unfold putP
   split at h
   ·rename_i h1;rw[if_pos h1]
   ·rename_i h1
    split at h
    ·cases h
    ·rename_i h2;rw[if_neg h1,if_neg h2]
  rw[e]at C
  exact Met.of_no rfl (C.mono fun e w'⟨h1,_,h3⟩=>⟨h1,h3⟩)
 |some s'=>
  have r:=put_run h g1
  obtain⟨rfl,hr⟩:=putO_some h
  have h1:¬t.size=0:=by intro e;unfold putO at h;rw[if_pos e]at h;cases h
  have e:putP (s.deep (-1)) t=(((s.deep (-1)).less t.size).add t,true):=putP_ok h1 (by omega)
  rw[e]at C
  exact Met.of_ok rfl (C.mono fun e w'⟨h1,h2,h3⟩=>⟨h1,⟨c.c.to h3 h2 r.gd.g.r0 r.gd.g.r1,r.gd⟩,h3⟩)
/--A string as new bytes. -/
theorem convB(w:World)(X:ByteArray)(hX:X.size≤9223372036854775807):∃W cp,(convert 9 47 (.string X)).run Tryz.prog w=.ok (.slice (some ⟨w.heap.size,0,none⟩) X.size cp) W∧utf.IsB W (some ⟨w.heap.size,0,none⟩) X.size (sfB X)∧X.size≤cp∧cp≤9223372036854775807∧Below w.heap.size w W:=by
 refine⟨_,_,Lib.run_convert_string_bytes (P:=Tryz.prog) w 9 47 5 X Tryz.underlying9 Tryz.underlying47 Tryz.underlying5,.inr ⟨_,_,rfl,fun i hi=>?_⟩,grownCap_ge w _ _ _,?_,⟨rfl,rfl,rfl,by rw[Lib.bytesWorld_size];omega,fun k hk=>Lib.bytesWorld_at_old w _ X k hk⟩⟩
 ·rw[Nat.zero_add];exact Lib.bytesWorld_cell w _ X i hi
 ·have:=grownCap_le_maxLen w X.size 0 5 (by unfold maxLen;omega)
  unfold maxLen at this;omega
/--repeatable. -/
theorem repeatable_any(k:Int)(w:World):Calls Tryz.prog 62 #[.int .i64 k] w fun e w'=>e=.returned (.bool (repB k))∧w'=w:=by
 go_enter Tryz.func62,Tryz.ntmps62
 go_wp2
 all_goals(go_ret;exact⟨by simp_all[repB],rfl⟩)
end Go.Proofs.YtbbeciofgnkggaaGreatDoor.tre
namespace Go.Proofs.YtbbeciofgnkggaaGreatDoor.tre
open Go.RowKit nod
open rng(R RV ret_int ret_bool below_drewN info_parts own_below')
open tok(PEnv TX printL)
theorem propTW_size(n:ByteArray)(ng:Bool)(hn:n.size≤140737488355327):(propT n ng).size≤140737488355331:=by
 unfold propT
 have e:∀x y:ByteArray,x.size≤3→y.size≤1→((x++n)++y).size≤140737488355331:=fun x y hx hy=>by rw[ByteArray.size_append,ByteArray.size_append];omega
 cases ng<;>(repeat' split)<;>first|decide|exact e _ _ (by decide) (by decide)|simp_all
theorem str_eq(x y:ByteArray):(x.toList==y.toList)=decide (x=y):=by
 rw[Bool.eq_iff_iff,beq_iff_eq,decide_eq_true_eq]
 refine⟨fun h=>?_,fun h=>by rw[h]⟩
 rw[Lib.toList_data,Lib.toList_data]at h
 obtain⟨⟨x⟩⟩:=x
 obtain⟨⟨y⟩⟩:=y
 simpa using h
theorem upD(t:ByteArray)(u:List UInt8)(h:t.data.toList=u):t=⟨u.toArray⟩:=by rw[←h]
theorem ptext_letter(x y:UInt8)(hx:x=100∧y=68∨x=119∧y=87∨x=115∧y=83)(ng:Bool)(w:World):Calls Tryz.prog 60 #[.string ⟨#[x]⟩,.bool ng] w fun e w'=>e=.returned (.string (if ng then⟨#[92,y]⟩else⟨#[92,x]⟩))∧Below w.heap.size w w':=by
 have U:=Tryz.strings_ToUpper_ascii ⟨#[x]⟩ w (by show 1≤_;omega) (fun j b hj=>by
  match j,hj with
  |0,hj=>simp at hj;subst hj;rcases hx with⟨rfl,_⟩|⟨rfl,_⟩|⟨rfl,_⟩<;>decide
  |k+1,hj=>simp at hj)
 have eu:(⟨(Lib.toUpperA (ByteArray.data ⟨#[x]⟩).toList).toArray⟩:ByteArray)=⟨#[y]⟩:=by rcases hx with⟨rfl,rfl⟩|⟨rfl,rfl⟩|⟨rfl,rfl⟩<;>decide
 rw[eu]at U
 have s1:ByteArray.size ⟨#[92]⟩=1:=rfl
 have s2:ByteArray.size ⟨#[x]⟩=1:=rfl
 have s3:ByteArray.size ⟨#[y]⟩=1:=rfl
 have HR:Hid (Below w.heap.size w w):=Below.refl _ w
 cases ng
 ·rcases hx with⟨rfl,rfl⟩|⟨rfl,rfl⟩|⟨rfl,rfl⟩
  all_goals
   clear eu U
   go_enter Tryz.func60,Tryz.ntmps60
   go_wp2
   go_ret
   exact⟨rfl,HR.out⟩
 ·rcases hx with⟨rfl,rfl⟩|⟨rfl,rfl⟩|⟨rfl,rfl⟩
  all_goals
   clear eu
   go_enter Tryz.func60,Tryz.ntmps60
   go_wp2_with(go_at_call 54;refine U.mono ?_;rintro e w1⟨rfl,d⟩;have HW:Hid (Below w.heap.size w w1):=d;clear d)
   go_ret
   exact⟨rfl,HW.out⟩
theorem ptext_any(n:ByteArray)(ng:Bool)(hn:n.size≤140737488355327)(w:World):Calls Tryz.prog 60 #[.string n,.bool ng] w fun e w'=>e=.returned (.string (propT n ng))∧Below w.heap.size w w':=by
 unfold propT
 by_cases c1:n=⟨#[100]⟩
 ·rw[if_pos c1];subst c1;exact ptext_letter 100 68 (by simp) ng w
 by_cases c2:n=⟨#[119]⟩
 ·rw[if_neg c1,if_pos c2];subst c2;exact ptext_letter 119 87 (by simp) ng w
 by_cases c3:n=⟨#[115]⟩
 ·rw[if_neg c1,if_neg c2,if_pos c3];subst c3;exact ptext_letter 115 83 (by simp) ng w
 rw[if_neg c1,if_neg c2,if_neg c3]
 have l1:(n.toList==[100])=false:=by rw[beq_eq_false_iff_ne];exact fun h=>c1 (upD n _ (by rw[←Lib.toList_data];exact h))
 have l2:(n.toList==[119])=false:=by rw[beq_eq_false_iff_ne];exact fun h=>c2 (upD n _ (by rw[←Lib.toList_data];exact h))
 have l3:(n.toList==[115])=false:=by rw[beq_eq_false_iff_ne];exact fun h=>c3 (upD n _ (by rw[←Lib.toList_data];exact h))
 have s1:ByteArray.size ⟨#[92,112,123]⟩=3:=rfl
 have s2:ByteArray.size ⟨#[92,80,123]⟩=3:=rfl
 have s3:ByteArray.size ⟨#[125]⟩=1:=rfl
 have HR:Hid (Below w.heap.size w w):=Below.refl _ w
 clear c1 c2 c3
 cases ng
 ·rw[if_neg (by simp)]
  obtain⟨Y,hY⟩:∃Y,(⟨#[92,112,123]⟩:ByteArray)++n=Y:=⟨_,rfl⟩
  have d1:Y.size=n.size+3:=by rw[←hY,ByteArray.size_append,s1];omega
  rw[hY]
  go_enter Tryz.func60,Tryz.ntmps60
  go_wp2
  go_ret
  exact⟨rfl,HR.out⟩
 ·rw[if_pos rfl]
  obtain⟨Y,hY⟩:∃Y,(⟨#[92,80,123]⟩:ByteArray)++n=Y:=⟨_,rfl⟩
  have d1:Y.size=n.size+3:=by rw[←hY,ByteArray.size_append,s2];omega
  rw[hY]
  go_enter Tryz.func60,Tryz.ntmps60
  go_wp2
  go_ret
  exact⟨rfl,HR.out⟩
theorem named_any(X n:ByteArray)(hX:X.size≤9223372036854775807)(w:World)(hm:utf.Marks w):Calls Tryz.prog 61 #[.string X,.string n] w fun e w'=>e=.returned (.bool (namedB X n))∧Below w.heap.size w w':=by
 obtain⟨W0,cp0,CV0,IB0,hcp0,hcq0,b0⟩:=convB w X hX
 have C2:=tok.scan_any _ X.size cp0 (sfB X) W0 IB0 (hm.below b0) (sfB_in X) hcp0 hcq0
 unfold namedB
 generalize tok.scanL (sfB X) X.size=Q at*
 obtain⟨L,q,p⟩:=Q
 simp only[]at C2⊢
 have HB0:Hid (Below w.heap.size w W0):=b0
 generalize X.size=N at*
 obtain⟨r,hr⟩:∃r,((q==0)&&decide (L.map (fun k=>lin.BA k.name)=[n]))=r:=⟨_,rfl⟩
 rw[hr]
 have HRr:Hid (((q==0)&&decide (L.map (fun k=>lin.BA k.name)=[n]))=r):=hr
 clear hm IB0 b0 hr
 go_enter Tryz.func61,Tryz.ntmps61
 go_wp2_with fail
 clear CV0
 refine C2.mono ?_
 rintro e w2⟨v1,rfl,ho1,hb2⟩
 clear C2
 obtain⟨ta,tc,rfl,htc,hv⟩:=tok.tok_view ho1
 have HB2:Hid (Below w.heap.size w (w2.alloc (.cells #[.int .i64 q,.int .i64 (p:Int)] 93))):=(HB0.out.trans (hb2.mono HB0.out.size)).trans ((Below.refl _ w2).alloc (Nat.le_trans HB0.out.size hb2.size) _)
 have HBW:Hid (Below w2.heap.size w2 (w2.alloc (.cells #[.int .i64 q,.int .i64 (p:Int)] 93))):=(Below.refl _ _).alloc (Nat.le_refl _) _
 by_cases hq:q=0
 ·subst hq
  rcases L with _|⟨t,_|⟨u,L'⟩⟩
  ·clear hv ho1 hb2
   have HE:Hid (r=false):=by unfold Hid;rw[←HRr.out];simp
   clear HRr
   go_wp2
   go_ret
   exact⟨by rw[HE.out];rfl,HB2.out⟩
  ·obtain⟨g,rfl,-,hgl,hat⟩:=hv (by simp)
   have A4:=(hat 0 t rfl).below HBW.out
   have a4:=A4.c4
   simp only[Nat.zero_mul,Nat.zero_add]at a4
   have HE:Hid (r=((lin.BA t.name).toList==n.toList)):=by unfold Hid;rw[←HRr.out,str_eq];simp
   clear hv ho1 hb2 hat A4 HRr
   generalize lin.BA t.name=Z at*
   go_wp2
   go_ret
   exact⟨by rw[HE.out];exact ret_bool (by simp),HB2.out⟩
  ·have e1:((((t::u::L').length:Nat):Int)==1)=false:=by simp;omega
   have HE:Hid (r=false):=by unfold Hid;rw[←HRr.out];simp
   clear HRr
   generalize(t::u::L').length=m at*
   clear hv ho1 hb2
   go_wp2
   go_ret
   exact⟨by rw[HE.out];rfl,HB2.out⟩
 ·have f1:(q==0)=false:=by simpa using hq
  have HE:Hid (r=false):=by unfold Hid;rw[←HRr.out,f1];rfl
  clear HRr
  generalize L.length=m at*
  clear hv ho1 hb2
  go_wp2
  go_ret
  exact⟨by rw[HE.out];rfl,HB2.out⟩
end Go.Proofs.YtbbeciofgnkggaaGreatDoor.tre
namespace Go.Proofs.YtbbeciofgnkggaaGreatDoor.tre
open Go.RowKit nod
open rng(R RV ret_int ret_bool below_drewN info_parts own_below')
open tok(PEnv TX printL)
theorem met_no{w0 W w':World}{base g:Nat}{P:Option Wr}(e:P=none)(k:Kt base W w'):Ending.returned (.bool false)=Ending.returned (.bool P.isSome)∧(∀s',P=some s'→Cx w0 w' base g s')∧Kt base W w':=by
 subst e;exact⟨rfl,fun s' e=>(by cases e),k⟩
theorem met_ok{w0 W w':World}{base g:Nat}{P:Option Wr}{s':Wr}(e:P=some s')(c:Cx w0 w' base g s')(k:Kt base W w'):Ending.returned (.bool true)=Ending.returned (.bool P.isSome)∧(∀s',P=some s'→Cx w0 w' base g s')∧Kt base W w':=by
 subst e;exact⟨rfl,fun s e=>(by cases e;exact c),k⟩
/--The writer s, and beside it the node that a call that began in W keeps in block z. -/
structure Sn(w0 W:World)(base g z:Nat)(box:Array Value)(s:Wr)(w':World):Prop where
 cx:Cx w0 w' base g s
 kt:Kt base W w'
 bk:Bk w' z box 25
theorem Sn.start{w0 W:World}{base g:Nat}{s:Wr}(c:Cx w0 W base g s)(box:Array Value):Sn w0 W base g W.heap.size box s (W.alloc (.cells box 25)):=
 ⟨c.on ((Below.refl _ W).alloc (Nat.le_refl _) _),c.kt ((Below.refl _ W).alloc (Nat.le_refl _) _),Bk.new W _ _⟩
theorem Sn.st{w0 W:World}{base g:Nat}{s:Wr}(c:Cx w0 W base g s)(box:Array Value):Hid (Sn w0 W base g W.heap.size box s (W.alloc (.cells box 25))):=Sn.start c box
abbrev Cs(w0 W:World)(base g:Nat)(box:Array Value)(s s':Wr)(f:FuncId)(args:Array Value)(v:Value):Prop:=∀W',Sn w0 W base g W.heap.size box s W'→Calls Tryz.prog f args W' fun e w'=>e=.returned v∧Sn w0 W base g W.heap.size box s' w'
abbrev Cn(w0 W:World)(base g:Nat)(box:Array Value)(s:Wr)(f:FuncId)(args:Array Value)(v:Value):Prop:=∀W',Sn w0 W base g W.heap.size box s W'→Calls Tryz.prog f args W' fun e w'=>e=.returned v∧Kt base W w'
abbrev Cp(w0 W:World)(base g:Nat)(box:Array Value)(s:Wr)(f:FuncId)(args:Array Value)(P:Option Wr):Prop:=∀W',Sn w0 W base g W.heap.size box s W'→Calls Tryz.prog f args W' fun e w'=>e=.returned (.bool P.isSome)∧(∀s',P=some s'→Cx w0 w' base g s')∧Kt base W w'
theorem Sn.quiet{w0 W w' w'':World}{base g z:Nat}{box:Array Value}{s:Wr}(S:Sn w0 W base g z box s w')(d:Below w'.heap.size w' w''):Sn w0 W base g z box s w'':=
 ⟨S.cx.on d,S.kt.trans (S.cx.kt d),S.bk.on d⟩
theorem Sn.wrote{w0 W w' w'':World}{base g z:Nat}{box:Array Value}{s s':Wr}(S:Sn w0 W base g z box s w')(k:Kt base w' w'')(c:Cx w0 w'' base g s'):Sn w0 W base g z box s' w'':=
 ⟨c,S.kt.trans k,Bk.kt S.bk k nodeT.1 nodeT.2.1 nodeT.2.2⟩
theorem Met.sn{f:FuncId}{args:Array Value}{w0 W W':World}{base g z:Nat}{box:Array Value}{s:Wr}{P:Option Wr}(h:Met f args w0 W' base g P)(S:Sn w0 W base g z box s W'):
 Calls Tryz.prog f args W' fun e w'=>e=.returned (.bool P.isSome)∧(∀s',P=some s'→Cx w0 w' base g s')∧Kt base W w':=h.mono fun e w'⟨h1,h2,h3⟩=>⟨h1,h2,S.kt.trans h3⟩
theorem Met.sn_no{f:FuncId}{args:Array Value}{w0 W W':World}{base g z:Nat}{box:Array Value}{s:Wr}{P:Option Wr}(h:Met f args w0 W' base g P)(e:P=none)(S:Sn w0 W base g z box s W'):
 Calls Tryz.prog f args W' fun e w'=>e=.returned (.bool false)∧Kt base W w':=(h.no e).mono fun e w'⟨h1,h3⟩=>⟨h1,S.kt.trans h3⟩
theorem Met.sn_ok{f:FuncId}{args:Array Value}{w0 W W':World}{base g z:Nat}{box:Array Value}{s s':Wr}{P:Option Wr}(h:Met f args w0 W' base g P)(e:P=some s')(S:Sn w0 W base g z box s W'):
 Calls Tryz.prog f args W' fun e w'=>e=.returned (.bool true)∧Sn w0 W base g z box s' w':=(h.ok e).mono fun e w'⟨h1,h2,h3⟩=>⟨h1,S.wrote h3 h2⟩
theorem quiet_of{f:FuncId}{args:Array Value}{v:Value}{w0 W W':World}{base g z:Nat}{box:Array Value}{s:Wr}(S:Sn w0 W base g z box s W')(h:Calls Tryz.prog f args W' fun e w'=>e=.returned v∧Below W'.heap.size W' w'):
 Calls Tryz.prog f args W' fun e w'=>e=.returned v∧Sn w0 W base g z box s w':=h.mono fun e w'⟨h1,h2⟩=>⟨h1,S.quiet h2⟩
theorem still_of{f:FuncId}{args:Array Value}{v:Value}{w0 W W':World}{base g z:Nat}{box:Array Value}{s:Wr}(S:Sn w0 W base g z box s W')(h:Calls Tryz.prog f args W' fun e w'=>e=.returned v∧w'=W'):
 Calls Tryz.prog f args W' fun e w'=>e=.returned v∧Sn w0 W base g z box s w':=h.mono fun e w'⟨h1,h2⟩=>⟨h1,by rw[h2];exact S⟩
/--A kid's cells. -/
theorem Sn.kid{w0 W w':World}{base g z:Nat}{box:Array Value}{s:Wr}(S:Sn w0 W base g z box s w'){kb ko:Nat}{c0 c1 c2 c3 c4 c5 c6 c7:Value}(h:At8 w0 kb ko (.agg #[c0,c1,c2,c3,c4,c5,c6,c7]))(hk:kb<base):
  w'.cell? ⟨kb,ko,none⟩=some c0∧w'.cell? ⟨kb,ko+1,none⟩=some c1∧w'.cell? ⟨kb,ko+2,none⟩=some c2∧w'.cell? ⟨kb,ko+3,none⟩=some c3∧w'.cell? ⟨kb,ko+4,none⟩=some c4∧w'.cell? ⟨kb,ko+5,none⟩=some c5∧w'.cell? ⟨kb,ko+6,none⟩=some c6∧w'.cell? ⟨kb,ko+7,none⟩=some c7:=by
 obtain⟨_,_,_,_,_,_,_,_,ee,k0,k1,k2,k3,k4,k5,k6,k7⟩:=h.below S.cx.c.bel hk
 simp only[Value.agg.injEq,Array.mk.injEq,List.cons.injEq,and_true]at ee
 obtain⟨rfl,rfl,rfl,rfl,rfl,rfl,rfl,rfl⟩:=ee
 exact⟨k0,k1,k2,k3,k4,k5,k6,k7⟩
/--othersZero beside the writer. -/
theorem oz_sn{w0 W W':World}{base g z:Nat}{box:Array Value}{s:Wr}(S:Sn w0 W base g z box s W')(k m a b:Int)(ng:Bool)(n:ByteArray)(st:List R)(ks:List Nd)(sa:Option Addr)(sl sc:Nat)(ao:Option Addr)(nk cap:Nat)(hsl:st.length=sl)(hnk:ks.length=nk)(q:Bool)(hq:othersZ (.mk k m a b ng n st ks)=q):
  Calls Tryz.prog 30 #[.agg (n8 k m a b ng n sa sl sc ao nk cap)] W' fun e w'=>e=.returned (.bool q)∧Sn w0 W base g z box s w':=by
 rw[←hq];exact quiet_of S (oz_any k m a b ng n st ks sa sl sc ao nk cap W' hsl hnk)
end Go.Proofs.YtbbeciofgnkggaaGreatDoor.tre
