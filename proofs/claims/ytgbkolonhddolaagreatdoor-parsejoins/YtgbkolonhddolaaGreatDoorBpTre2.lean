import Derived.Test.YtgbkolonhddolaaGreatDoorBpTre1
import Derived.Lib.ConvBytes
import Derived.Test.YtgbkolonhddolaaGreatDoorBpTok6
import Derived.Test.YtgbkolonhddolaaGreatDoorBpUpS1
set_option linter.unusedSimpArgs false
set_option linter.unusedVariables false
set_option maxRecDepth 10000
set_option maxHeartbeats 16000000
theorem Go.Proofs.YtgbkolonhddolaaGreatDoor.hd40{p:Prop}(h:p):Go.RowKit.Hid p:=h
namespace Go.Proofs.YtgbkolonhddolaaGreatDoor.tre
open Go.RowKit nod
open rng(R RV)
open tok(PEnv TX ak)
theorem JQ{m:Int}(h:m=1∨m=2∨m=3):(aV m bC).size=2:=by
 rcases h with rfl|rfl|rfl<;>decide
theorem dep3{t:Nd}(h:t.kind=3):fH t=depL (ni 3 t.mode) t.kids+1∧grpN t=grpL t.kids:=by
 obtain⟨k,m,a,b,g,n,s,ks⟩:=t
 simp only[Nd.kind]at h
 subst h
 rw[fH,grpN,show kQ 3=true by decide,if_pos rfl,if_neg (by omega)]
 exact⟨rfl,by simp[Nd.kids]⟩
/--What inside comes to. -/
abbrev qh(ins:Wr→Nd→Option Wr):Prop:=∀t s s',ins s t=some s'→Gd s→Run s s' (grpL t.kids) (depL (ni 3 t.mode) t.kids)
theorem wh{ins:Wr→Nd→Option Wr}(hi:qh ins){s s':Wr}{t:Nd}(h:nN ins s t=some s')(hk:t.kind=3)(g:Gd s):Run s s' (grpN t) (fH t):=by
 unfold nN at h
 obtain⟨s1,h1,h⟩:=bind_some h
 obtain⟨s2,h2,h3⟩:=bind_some h
 have e:=lK h1 g
 have r:=wB h1 (hi t s1 s2 h2 e.1) h3 g
 rw[(dep3 hk).1,(dep3 hk).2]
 exact r
theorem y8{s s':Wr}{n:ByteArray}{neg:Bool}(h:iD s n neg=some s')(g:Gd s):Run s s' 0 0:=by
 unfold iD at h
 split at h
 ·exact cu h g
 ·cases h
theorem FU{s s':Wr}{a b:Int}(h:pE s a b=some s')(g:Gd s):Run s s' 0 0:=by
 unfold pE at h
 split at h
 ·obtain⟨s1,h1,h⟩:=bind_some h
  obtain⟨s2,h2,h3⟩:=bind_some h
  have r1:=cu h1 g
  have r2:=cu h2 r1.gd
  have r3:=cu h3 r2.gd
  exact((r1.trans r2).trans r3).to (by omega) (by omega)
 ·cases h
theorem iG{s s':Wr}{t:Nd}(r:Run s s' 0 0)(h:othersZ t=true)(hk:may t.kind 32=false)(h1:t.kind≠9)(h2:kQ t.kind=false):Run s s' (grpN t) (fH t):=by
 obtain⟨e1,e2⟩:=GA (no_kids h hk) h1 h2
 rw[e1,e2];exact r
theorem Cn{ins:Wr→Nd→Option Wr}(hi:qh ins)(t:Nd)(s s':Wr)(h:cz ins s t=some s')(g:Gd s):Run s s' (grpN t) (fH t):=by
 unfold cz at h
 split at h
 ·cases h
 have ho:othersZ t=true:=by simpa using(by assumption:¬othersZ t=false)
 split at h
 ·rename_i hk;exact iG (cu h g) ho (by rw[hk];decide+kernel) (by omega) (by rw[hk];decide)
 split at h
 ·rename_i hk;exact iG (FU h g) ho (by rw[hk];decide+kernel) (by omega) (by rw[hk];decide)
 split at h
 ·rename_i hk;exact iG (y8 h g) ho (by rw[hk];decide+kernel) (by omega) (by rw[hk];decide)
 split at h
 ·rename_i hk;exact wh hi h hk g
 ·cases h
theorem mg{t:Nd}(h:qp t=true):t.kind=3:=by
 obtain⟨k,m,a,b,g,n,s,ks⟩:=t
 simp only[qp,Bool.and_eq_true,beq_iff_eq]at h
 exact h.1.1
theorem dJ:∀N:Nat,qh (insideO N)
 |0=>fun t s s' h _=>by rw[insideO]at h;cases h
 |N+1=>fun t s s' h g=>by
  rw[insideO]at h
  split at h
  ·rename_i hm
   split at h
   ·cases h
   ·obtain⟨G,D,r,hG,h0,hD⟩:=oq (Cn (dJ N)) t.kids s s' h g
    rw[hm,show ni 3 0=false by decide,sQ]
    refine r.to hG (xH false D h0 _ fun x hx=>?_)
    have:=hD x hx
    simp
    exact this
  ·split at h
   ·rename_i hm
    have hop:=JQ hm
    have hsd:ni 3 t.mode=true:=by rcases hm with h|h|h<;>rw[h]<;>decide
    rw[hsd]
    generalize t.kids=ks at*
    match ks,h with
    |[l,r],h=>
     simp only[sidesO]at h
     split at h
     ·rename_i hc
      obtain⟨c1,c2,c3,c4⟩:=hc
      obtain⟨s1,h1,h2⟩:=bind_some h
      obtain⟨⟨r0,r1,d0,d1,g0,g1,n1⟩,n⟩:=g
      have gl:Gd (s.less 2):=⟨⟨by show 0≤s.room-2;omega,by show(s.text.length:Int)+(s.room-2)≤2000;omega,d0,d1,g0,g1,n1⟩,n⟩
      have q1:=dJ N l _ _ h1 gl
      have es:(s1.text.length:Int)+s1.room=s.text.length+(s.room-2):=q1.sum
      obtain⟨⟨a0,a1,a2,a3,a4,a5,a6⟩,a7⟩:=q1.gd
      have al:=xR s1 (aV t.mode bC)
      have er:(s1.add (aV t.mode bC)).room=s1.room:=rfl
      have gr:Gd (s1.add (aV t.mode bC)):=⟨⟨a0,by rw[al,er];omega,a2,a3,a4,a5,a6⟩,a7⟩
      have q2:=dJ N r _ _ h2 gr
      have el:=dep3 (mg c1)
      have e2:=dep3 (mg c2)
      refine⟨q2.gd,?_,?_,?_,?_⟩
      ·have:=q2.sum;rw[al,er]at this;omega
      ·exact q2.dep.trans q1.dep
      ·have h1:=q2.dS;have h2:=q1.dS
       have e:(s1.add (aV t.mode bC)).groups=s1.groups:=rfl
       have e':(s.less 2).groups=s.groups:=rfl
       rw[grpL,grpL,grpL,el.2,e2.2];omega
      ·have h1:=q2.low;have h2:=q1.low;have h3:=q1.dep
       have e:(s1.add (aV t.mode bC)).depth=s1.depth:=rfl
       have e':(s.less 2).depth=s.depth:=rfl
       rw[depL,depL,depL,el.1,e2.1,mg c1,mg c2]
       simp
       omega
     ·cases h
   ·cases h
/--What part comes to. -/
abbrev iK(pt:Wr→Nd→Option Wr):Prop:=∀t s s',pt s t=some s'→Gd s→Run s s' (grpN t) (fH t)
theorem zW{t:Nd}{D:Int}(hk:t.kind=6∨t.kind=7)(h0:0≤D)(h:∀x∈t.kids,fH x≤D):fH t≤D∧grpN t=(t.kids.map grpN).sum:=by
 obtain⟨k,m,a,b,g,n,s,ks⟩:=t
 simp only[Nd.kind,Nd.kids]at hk h⊢
 rw[fH,grpN,show kQ k=false by rcases hk with rfl|rfl<;>decide,if_neg (by decide),if_neg (by omega),sQ,show ni k m=false by rcases hk with rfl|rfl<;>rfl]
 have:=xH false D h0 ks (fun x hx=>by have:=h x hx;simp;exact this)
 exact⟨by omega,by omega⟩
theorem wO{pt:Wr→Nd→Option Wr}(hp:iK pt){s s':Wr}{t:Nd}(h:nJ pt s t=some s')(g:Gd s):Run s s' (grpN t) (fH t):=by
 unfold nJ at h
 split at h
 ·rename_i hk
  obtain⟨G,D,r,hG,h0,hD⟩:=oq hp t.kids s s' h g
  obtain⟨e1,e2⟩:=zW (.inl hk.1) h0 hD
  exact r.to (by rw[hG,e2]) e1
 ·cases h
theorem bar_run{pt:Wr→Nd→Option Wr}(hp:iK pt)(t:Nd)(s s':Wr)(h:barO pt s t=some s')(g:Gd s):Run s s' (grpN t) (fH t):=by
 unfold barO at h
 obtain⟨s1,h1,h2⟩:=bind_some h
 have r1:=cu h1 g
 exact(r1.trans (wO hp h2 r1.gd)).to (by omega) (by omega)
theorem tL{pt:Wr→Nd→Option Wr}(hp:iK pt){s s':Wr}{t:Nd}(h:iy pt s t=some s')(g:Gd s):Run s s' (grpN t) (fH t):=by
 unfold iy at h
 split at h
 ·exact wO hp h g
 split at h
 ·rename_i hk
  unfold altO at h
  split at h
  ·split at h
   ·rename_i x xs hks
    obtain⟨s1,h1,h2⟩:=bind_some h
    have r1:=wO hp h1 g
    obtain⟨G,D,r,hG,h0,hD⟩:=oq (bar_run hp) xs s1 s' h2 r1.gd
    obtain⟨e1,e2⟩:=zW (t:=t) (D:=max (fH x) D) (.inr hk) (by omega) (by
     rw[hks]
     intro y hy
     rcases List.mem_cons.1 hy with rfl|hy
     ·omega
     ·have:=hD y hy;omega)
    exact(r1.trans r).to (by rw[e2,hks,hG];simp) e1
   ·cases h
  ·cases h
 ·cases h
theorem lM{pt:Wr→Nd→Option Wr}(hp:iK pt){s s':Wr}{op:ByteArray}{ks:List Nd}(h:enclO pt op s ks=some s')(g:Gd s):∃t,ks=[t]∧Run s s' (grpN t) (fH t+1):=by
 match ks,h with
 |[t],h=>
  simp only[enclO]at h
  obtain⟨s1,h1,h⟩:=bind_some h
  obtain⟨s2,h2,h3⟩:=bind_some h
  have e:=lK h1 g
  exact⟨t,rfl,wB h1 (tL hp h2 e.1) h3 g⟩
theorem mq{t x:Nd}(hk:t.kids=[x]):grpN t=(if t.kind=9∧0<t.a then 1 else 0)+grpN x∧fH t≤fH x+(if kQ t.kind=true then 1 else 0):=by
 obtain⟨k,m,a,b,g,n,s,ks⟩:=t
 simp only[Nd.kids]at hk
 subst hk
 have:=Dk _ x (Nat.le_refl _)
 rw[grpN,fH,grpL,grpL,depL,depL]
 show(if k=9∧0<a then 1 else 0)+(grpN x+0)=(if k=9∧0<a then 1 else 0)+grpN x∧max (fH x-if(x.kind==3&&ni k m)=true then 1 else 0) 0+(if kQ k=true then 1 else 0)≤fH x+(if kQ k=true then 1 else 0)
 refine⟨by omega,?_⟩
 generalize(if kQ k=true then(1:Int)else 0)=u
 obtain⟨v,hv⟩:∃v,(if(x.kind==3&&ni k m)=true then(1:Int)else 0)=v:=⟨_,rfl⟩
 rw[hv]
 have:0≤v:=by rw[←hv];split<;>omega
 omega
theorem KP{s:Wr}(g:Gd s)(h:s.groups+1≤20):Gd s.dS:=by
 obtain⟨⟨r0,r1,d0,d1,g0,g1,n1⟩,n⟩:=g
 exact⟨⟨r0,r1,d0,d1,by show 0≤s.groups+1;omega,h,n1⟩,by show(s.names.length:Int)≤s.groups+1;omega⟩
theorem J4{s:Wr}(g:Gd s)(h:s.groups+1≤20)(n:ByteArray):Gd (s.dS.nam n):=by
 obtain⟨⟨r0,r1,d0,d1,g0,g1,n1⟩,hn⟩:=g
 have e:(s.dS.nam n).names.length=s.names.length+1:=by simp[Wr.nam,Wr.dS]
 exact⟨⟨r0,r1,d0,d1,by show 0≤s.groups+1;omega,h,by rw[e];omega⟩,by rw[e];show((s.names.length+1:Nat):Int)≤s.groups+1;omega⟩
theorem Run.from{a a' b:Wr}{g d k:Int}(h:Run a' b g d)(e1:(a'.text.length:Int)+a'.room=a.text.length+a.room)(e2:a'.depth=a.depth)(e3:a'.groups=a.groups+k):Run a b (k+g) d:=
 ⟨h.gd,h.sum.trans e1,h.dep.trans e2,by have:=h.dS;omega,by have:=h.low;omega⟩
theorem G8{pt:Wr→Nd→Option Wr}(hp:iK pt){s s':Wr}{t:Nd}(hk:t.kind=9)(h:pX pt s t=some s')(g:Gd s):Run s s' (grpN t) (fH t):=by
 have hb:kQ t.kind=true:=by rw[hk];decide
 unfold pX at h
 split at h
 ·rename_i hc
  obtain⟨x,hx,r⟩:=lM hp h g
  obtain⟨e1,e2⟩:=mq hx
  rw[if_neg (by omega)]at e1
  rw[if_pos hb]at e2
  exact r.to (by omega) e2
 split at h
 ·cases h
 rename_i hc hd
 have ha:t.a=s.groups+1∧t.a≤20:=by omega
 have h0:=g.g.g0
 split at h
 ·obtain⟨x,hx,r⟩:=lM hp h (KP g (by omega))
  obtain⟨e1,e2⟩:=mq hx
  rw[if_pos ⟨hk,by omega⟩]at e1
  rw[if_pos hb]at e2
  exact(Run.from (a:=s) (k:=1) r rfl rfl rfl).to (by omega) e2
 split at h
 ·obtain⟨x,hx,r⟩:=lM hp h (J4 g (by omega) _)
  obtain⟨e1,e2⟩:=mq hx
  rw[if_pos ⟨hk,by omega⟩]at e1
  rw[if_pos hb]at e2
  exact(Run.from (a:=s) (k:=1) r rfl rfl rfl).to (by omega) e2
 ·cases h
theorem BM{pt:Wr→Nd→Option Wr}(hp:iK pt){s s':Wr}{t:Nd}(hk:t.kind=8)(h:kg pt s t=some s')(g:Gd s):Run s s' (grpN t) (fH t):=by
 unfold kg at h
 split at h
 ·rename_i x hx
  split at h
  ·obtain⟨s1,h1,h2⟩:=bind_some h
   have r1:=hp x s s1 h1 g
   have r2:=cu h2 r1.gd
   obtain⟨e1,e2⟩:=mq hx
   rw[if_neg (by omega)]at e1
   rw[hk,if_neg (by decide)]at e2
   exact(r1.trans r2).to (by omega) (by omega)
  ·cases h
 ·cases h
theorem ib:∀N:Nat,iK (bB N)
 |0=>fun t s s' h _=>by rw[bB]at h;cases h
 |N+1=>fun t s s' h g=>by
  rw[bB]at h
  by_cases hz:othersZ t=false
  ·rw[if_pos hz]at h;cases h
  rw[if_neg hz]at h
  have ho:othersZ t=true:=by simpa using hz
  clear hz
  by_cases hk:t.kind=1
  ·rw[if_pos hk]at h
   exact iG (cu h g) ho (by rw[hk];decide+kernel) (by omega) (by rw[hk];decide)
  rw[if_neg hk]at h
  clear hk
  by_cases hk:t.kind=2
  ·rw[if_pos hk]at h
   exact iG (cu h g) ho (by rw[hk];decide+kernel) (by omega) (by rw[hk];decide)
  rw[if_neg hk]at h
  clear hk
  by_cases hk:t.kind=3
  ·rw[if_pos hk]at h
   exact wh (dJ N) h hk g
  rw[if_neg hk]at h
  clear hk
  by_cases hk:t.kind=5
  ·rw[if_pos hk]at h
   exact iG (y8 h g) ho (by rw[hk];decide+kernel) (by omega) (by rw[hk];decide)
  rw[if_neg hk]at h
  clear hk
  by_cases hk:t.kind=8
  ·rw[if_pos hk]at h
   exact BM (ib N) hk h g
  rw[if_neg hk]at h
  clear hk
  by_cases hk:t.kind=9
  ·rw[if_pos hk]at h
   exact G8 (ib N) hk h g
  rw[if_neg hk]at h
  clear hk
  by_cases hk:t.kind=10
  ·rw[if_pos hk]at h
   obtain⟨x,hx,r⟩:=lM (ib N) h g
   obtain⟨e1,e2⟩:=mq hx
   rw[if_neg (by omega)]at e1
   rw[hk,if_pos (by decide)]at e2
   exact r.to (by omega) e2
  rw[if_neg hk]at h
  clear hk
  by_cases hk:t.kind=11
  ·rw[if_pos hk]at h
   obtain⟨x,hx,r⟩:=lM (ib N) h g
   obtain⟨e1,e2⟩:=mq hx
   rw[if_neg (by omega)]at e1
   rw[hk,if_pos (by decide)]at e2
   exact r.to (by omega) e2
  rw[if_neg hk]at h
  clear hk
  by_cases hk:t.kind=12
  ·rw[if_pos hk]at h
   exact iG (cu h g) ho (by rw[hk];decide+kernel) (by omega) (by rw[hk];decide)
  rw[if_neg hk]at h
  clear hk
  by_cases hk:t.kind=13
  ·rw[if_pos hk]at h
   by_cases hc:0<t.a∧t.a≤s.groups
   ·rw[if_pos hc]at h
    exact iG (cu h g) ho (by rw[hk];decide+kernel) (by omega) (by rw[hk];decide)
   ·rw[if_neg hc]at h;cases h
  rw[if_neg hk]at h
  clear hk
  by_cases hk:t.kind=14
  ·rw[if_pos hk]at h
   exact iG (cu h g) ho (by rw[hk];decide+kernel) (by omega) (by rw[hk];decide)
  rw[if_neg hk]at h
  clear hk
  cases h
theorem gd00:Gd w00:=⟨⟨by decide,by decide,by decide,by decide,by decide,by decide,by decide⟩,by decide⟩
/--A tree's pattern is not too long, it has not too many groups, it is not too deep. -/
theorem Ca{N:Nat}{t:Nd}{l:List UInt8}(h:og N t=some l):l.length≤2000∧grpN t≤20∧fH t≤50:=by
 unfold og at h
 obtain⟨s',h1,rfl⟩:=Option.map_eq_some_iff.1 h
 have r:=tL (ib N) h1 gd00
 have e1:(s'.text.length:Int)+s'.room=2000:=r.sum
 have e2:s'.groups=0+grpN t:=r.dS
 have e3:(0:Int)+fH t≤50:=r.low
 have:=r.gd.g.r0
 have:=r.gd.g.g1
 omega
end Go.Proofs.YtgbkolonhddolaaGreatDoor.tre
namespace Go.Proofs.YtgbkolonhddolaaGreatDoor.tre
open Go.RowKit nod
open rng(R RV aH ag below_drewN info_parts own_below')
theorem oz_set(k m a b:Int)(g:Bool)(n:ByteArray)(sa:Option Addr)(sl sc:Nat)(ao:Option Addr)(nk cap:Nat)(w:World)(hs:((sl:Int)==0)=false):Calls Tryz.prog 67 #[.agg #[.int .i64 k,.int .i64 m,.int .i64 a,.int .i64 b,.bool g,.string n,.slice sa sl sc,.slice ao nk cap]] w fun e w'=>e=.returned (.bool false)∧Below w.heap.size w w':=by
 have CF:=kG k (w.alloc (.cells #[.int .i64 k,.int .i64 m,.int .i64 a,.int .i64 b,.bool g,.string n,.slice sa sl sc,.slice ao nk cap] 26))
 have HB:Hid (Below w.heap.size w ((w.alloc (.cells #[.int .i64 k,.int .i64 m,.int .i64 a,.int .i64 b,.bool g,.string n,.slice sa sl sc,.slice ao nk cap] 26)).alloc (.cells #[.int .u64 (gq k)] 112))):=bP _ _ _
 generalize gq k=F at*
 go_enter Tryz.func67,Tryz.ntmps67
 go_wp2_with(first|(go_at_call 84;refine CF.mono ?_;rintro e w1⟨rfl,rfl⟩))
 go_ret
 exact⟨rfl,HB.out⟩
theorem oz_x(k m a b:Int)(g:Bool)(n:ByteArray)(sa:Option Addr)(sl sc:Nat)(ao:Option Addr)(nk cap:Nat)(w:World)(q0 q1 q2 q3 q4 q5 c0 c1 c2 c3 c4 c5:Bool)(h0:(m==0)=q0)(h1:(a==0)=q1)(h2:(b==0)=q2)(h3:(!g)=q3)(h4:n.toList.isEmpty=q4)(h5:((nk:Int)==0)=q5)
  (y0:may k 1=c0)(y1:may k 2=c1)(y2:may k 4=c2)(y3:may k 8=c3)(y4:may k 16=c4)(y5:may k 32=c5):Calls Tryz.prog 67 #[.agg #[.int .i64 k,.int .i64 m,.int .i64 a,.int .i64 b,.bool g,.string n,.slice sa 0 sc,.slice ao nk cap]] w fun e w'=>e=.returned (.bool ((q0||c0)&&(q1||c1)&&(q2||c2)&&(q3||c3)&&(q4||c4)&&(q5||c5)))∧Below w.heap.size w w':=by
 have CF:=kG k (w.alloc (.cells #[.int .i64 k,.int .i64 m,.int .i64 a,.int .i64 b,.bool g,.string n,.slice sa 0 sc,.slice ao nk cap] 26))
 have HB:Hid (Below w.heap.size w ((w.alloc (.cells #[.int .i64 k,.int .i64 m,.int .i64 a,.int .i64 b,.bool g,.string n,.slice sa 0 sc,.slice ao nk cap] 26)).alloc (.cells #[.int .u64 (gq k)] 112))):=bP _ _ _
 have hc:((w.alloc (.cells #[.int .i64 k,.int .i64 m,.int .i64 a,.int .i64 b,.bool g,.string n,.slice sa 0 sc,.slice ao nk cap] 26)).alloc (.cells #[.int .u64 (gq k)] 112)).cell? ⟨w.heap.size+1,0,none⟩=some (.int .u64 (gq k)):=bk2.cell 0 rfl
 have M0:=mE k 1 (w.heap.size+1) _ hc
 rw[y0]at M0
 have M1:=mE k 2 (w.heap.size+1) _ hc
 rw[y1]at M1
 have M2:=mE k 4 (w.heap.size+1) _ hc
 rw[y2]at M2
 have M3:=mE k 8 (w.heap.size+1) _ hc
 rw[y3]at M3
 have M4:=mE k 16 (w.heap.size+1) _ hc
 rw[y4]at M4
 have M5:=mE k 32 (w.heap.size+1) _ hc
 rw[y5]at M5
 generalize gq k=F at*
 clear hc y0 y1 y2 y3 y4 y5
 go_enter Tryz.func67,Tryz.ntmps67
 go_wp2_with(first|(go_at_call 84;refine CF.mono ?_;rintro e w1⟨rfl,rfl⟩)|(go_at_call_of 85(Value.int IntKind.u64 1);refine M0.mono ?_;rintro e w1⟨rfl,rfl⟩)|(go_at_call_of 85(Value.int IntKind.u64 2);refine M1.mono ?_;rintro e w1⟨rfl,rfl⟩)|(go_at_call_of 85(Value.int IntKind.u64 4);refine M2.mono ?_;rintro e w1⟨rfl,rfl⟩)|(go_at_call_of 85(Value.int IntKind.u64 8);refine M3.mono ?_;rintro e w1⟨rfl,rfl⟩)|(go_at_call_of 85(Value.int IntKind.u64 16);refine M4.mono ?_;rintro e w1⟨rfl,rfl⟩)|(go_at_call_of 85(Value.int IntKind.u64 32);refine M5.mono ?_;rintro e w1⟨rfl,rfl⟩))
 all_goals(go_ret;exact⟨by simp_all,HB.out⟩)
end Go.Proofs.YtgbkolonhddolaaGreatDoor.tre
namespace Go.Proofs.YtgbkolonhddolaaGreatDoor.tre
open Go.RowKit nod
open rng(R RV aH ag below_drewN info_parts own_below')
theorem JM(k m a b:Int)(g:Bool)(n:ByteArray)(s:List R)(ks:List Nd)(sa:Option Addr)(sl sc:Nat)(ao:Option Addr)(nk cap:Nat)(w:World)(hsl:s.length=sl)(hnk:ks.length=nk):
  Calls Tryz.prog 67 #[.agg #[.int .i64 k,.int .i64 m,.int .i64 a,.int .i64 b,.bool g,.string n,.slice sa sl sc,.slice ao nk cap]] w fun e w'=>e=.returned (.bool (othersZ (.mk k m a b g n s ks)))∧Below w.heap.size w w':=by
 have es:s.isEmpty=decide (sl=0):=by rw[←hsl];cases s<;>simp
 have ek:ks.isEmpty=((nk:Int)==0):=by rw[←hnk];cases ks<;>simp;omega
 rw[othersZ,es,ek]
 clear es ek hsl hnk
 by_cases cs:sl=0
 ·subst cs
  have:=oz_x k m a b g n sa 0 sc ao nk cap w _ _ _ _ _ _ _ _ _ _ _ _ rfl rfl rfl rfl rfl rfl rfl rfl rfl rfl rfl rfl
  simpa using this
 ·rw[show decide (sl=0)=false from decide_eq_false cs]
  simpa using oz_set k m a b g n sa sl sc ao nk cap w (by simpa using cs)
end Go.Proofs.YtgbkolonhddolaaGreatDoor.tre
namespace Go.Proofs.YtgbkolonhddolaaGreatDoor.tre
open Go.RowKit nod
open rng(R RV aH ag below_drewN info_parts own_below')
open tok(PEnv TX ak)
/--The writer s, the tables, and what holds of s while it still may be one. -/
structure Cx(w0 W:World)(base g:Nat)(s:Wr):Prop where
 c:Ctx w0 W base g s
 gd:Gd s
theorem Cx.on{w0 W W':World}{base g:Nat}{s:Wr}(c:Cx w0 W base g s)(h:Below W.heap.size W W'):Cx w0 W' base g s:=⟨c.c.on h,c.gd⟩
theorem Cx.kt{w0 W W':World}{base g:Nat}{s:Wr}(c:Cx w0 W base g s)(h:Below W.heap.size W W'):Kt base W W':=Kt.of_below h c.c.size
/--A call that tells whether it may be, and writes. -/
def Met(f:FuncId)(args:Array Value)(w0 W:World)(base g:Nat)(P:Option Wr):Prop:=
 Calls Tryz.prog f args W fun e w'=>e=.returned (.bool P.isSome)∧(∀s',P=some s'→Cx w0 w' base g s')∧Kt base W w'
theorem Met.no{f:FuncId}{args:Array Value}{w0 W:World}{base g:Nat}{P:Option Wr}(h:Met f args w0 W base g P)(e:P=none):
  Calls Tryz.prog f args W fun e w'=>e=.returned (.bool false)∧Kt base W w':=by
 subst e
 exact h.mono fun e w'⟨h1,_,h3⟩=>⟨h1,h3⟩
theorem Met.ok{f:FuncId}{args:Array Value}{w0 W:World}{base g:Nat}{P:Option Wr}{s':Wr}(h:Met f args w0 W base g P)(e:P=some s'):
  Calls Tryz.prog f args W fun e w'=>e=.returned (.bool true)∧Cx w0 w' base g s'∧Kt base W w':=by
 subst e
 exact h.mono fun e w'⟨h1,h2,h3⟩=>⟨h1,h2 _ rfl,h3⟩
/--What a caller asks: the same of a world that lies behind its own. -/
theorem Met.JU{f:FuncId}{args:Array Value}{w0 W:World}{base g:Nat}{P:Option Wr}(e:P=none)(h:Calls Tryz.prog f args W fun e w'=>e=.returned (.bool false)∧Kt base W w'):Met f args w0 W base g P:=by
 subst e
 exact h.mono fun e w'⟨h1,h3⟩=>⟨h1,fun s' e=>(by cases e),h3⟩
theorem Met.JS{f:FuncId}{args:Array Value}{w0 W:World}{base g:Nat}{P:Option Wr}{s':Wr}(e:P=some s')(h:Calls Tryz.prog f args W fun e w'=>e=.returned (.bool true)∧Cx w0 w' base g s'∧Kt base W w'):Met f args w0 W base g P:=by
 subst e
 exact h.mono fun e w'⟨h1,h2,h3⟩=>⟨h1,fun s e=>(by cases e;exact h2),h3⟩
/--What a method is at a node. -/
def Con(f:FuncId)(P:Wr→Nd→Option Wr)(t:Nd):Prop:=∀(w0 W:World)(base g:Nat)(s:Wr)(v:Value),Cx w0 W base g s→NV base w0 t v→Met f #[.pointer (some ⟨g,0,none⟩),v] w0 W base g (P s t)
theorem dX{w0 W:World}{base g:Nat}{s:Wr}(c:Cx w0 W base g s)(t:ByteArray)(ht:t.size≤9223372036854775807):Met 69 #[.pointer (some ⟨g,0,none⟩),.string t] w0 W base g (aN s t):=by
 have C:=wV base g s t W c.c.wr c.c.r0 c.c.r1 ht
 cases h:aN s t with
 |none=>
  have e:(iT s t).2=false:=by
   unfold aN at h;unfold iT
   split at h
   ·rename_i h1;rw[if_pos h1]
   ·rename_i h1
    split at h
    ·cases h
    ·rename_i h2;rw[if_neg h1,if_neg h2]
  rw[e]at C
  exact Met.JU rfl (C.mono fun e w'⟨h1,_,h3⟩=>⟨h1,h3⟩)
 |some s'=>
  obtain⟨rfl,hr⟩:=mh h
  have h1:¬t.size=0:=by intro e;unfold aN at h;rw[if_pos e]at h;cases h
  have e:iT s t=((s.less t.size).add t,true):=wW h1 (by omega)
  rw[e]at C
  have r:=cu h c.gd
  exact Met.JS rfl (C.mono fun e w'⟨h1,h2,h3⟩=>⟨h1,⟨c.c.to h3 h2 r.gd.g.r0 r.gd.g.r1,r.gd⟩,h3⟩)
theorem iN{w0 W:World}{base g:Nat}{s:Wr}(c:Cx w0 W base g s)(t:ByteArray)(ht:t.size≤9223372036854775807):Met 112 #[.pointer (some ⟨g,0,none⟩),.string t] w0 W base g (fG s t):=by
 have C:=Hl base g s t W c.c.wr c.gd.g ht
 cases h:fG s t with
 |none=>
  have e:(jq s t).2=false:=by
   unfold fG at h;unfold jq
   split at h
   ·rename_i h0
    rw[if_pos h0]
    unfold aN at h;unfold iT
    split at h
    ·rename_i h1;rw[if_pos h1]
    ·rename_i h1
     split at h
     ·cases h
     ·rename_i h2;rw[if_neg h1,if_neg h2]
   ·rename_i h0;rw[if_neg h0]
  rw[e]at C
  exact Met.JU rfl (C.mono fun e w'⟨h1,_,h3⟩=>⟨h1,h3⟩)
 |some s'=>
  obtain⟨a1,a2⟩:=lL h
  have g1:=oG c.gd 1 (by have:=c.gd.g.d0;omega) a1
  have r:=cu a2 g1
  obtain⟨rfl,hr⟩:=mh a2
  have h1:¬t.size=0:=by intro e;unfold aN at a2;rw[if_pos e]at a2;cases a2
  have e:jq s t=(((s.deep 1).less t.size).add t,true):=by unfold jq;rw[if_pos a1];exact wW h1 (by omega)
  rw[e]at C
  exact Met.JS rfl (C.mono fun e w'⟨h1,h2,h3⟩=>⟨h1,⟨c.c.to h3 h2 r.gd.g.r0 r.gd.g.r1,r.gd⟩,h3⟩)
theorem pV{w0 W:World}{base g:Nat}{s:Wr}(c:Cx w0 W base g s)(h1:1≤s.depth)(t:ByteArray)(ht:t.size≤9223372036854775807):Met 114 #[.pointer (some ⟨g,0,none⟩),.string t] w0 W base g (eG s t):=by
 have C:=Gz base g s t W c.c.wr c.gd.g ht
 have g1:=oG c.gd (-1) (by omega) (by have:=c.gd.g.d1;omega)
 unfold xu at C
 unfold eG
 cases h:aN (s.deep (-1)) t with
 |none=>
  have e:(iT (s.deep (-1)) t).2=false:=by
   unfold aN at h;unfold iT
   split at h
   ·rename_i h1;rw[if_pos h1]
   ·rename_i h1
    split at h
    ·cases h
    ·rename_i h2;rw[if_neg h1,if_neg h2]
  rw[e]at C
  exact Met.JU rfl (C.mono fun e w'⟨h1,_,h3⟩=>⟨h1,h3⟩)
 |some s'=>
  have r:=cu h g1
  obtain⟨rfl,hr⟩:=mh h
  have h1:¬t.size=0:=by intro e;unfold aN at h;rw[if_pos e]at h;cases h
  have e:iT (s.deep (-1)) t=(((s.deep (-1)).less t.size).add t,true):=wW h1 (by omega)
  rw[e]at C
  exact Met.JS rfl (C.mono fun e w'⟨h1,h2,h3⟩=>⟨h1,⟨c.c.to h3 h2 r.gd.g.r0 r.gd.g.r1,r.gd⟩,h3⟩)
/--A string as new bytes. -/
theorem convB(w:World)(X:ByteArray)(hX:X.size≤9223372036854775807):∃W cp,(convert 9 22 (.string X)).run Tryz.prog w=.ok (.slice (some ⟨w.heap.size,0,none⟩) X.size cp) W∧utf.oM W (some ⟨w.heap.size,0,none⟩) X.size (sfB X)∧X.size≤cp∧cp≤9223372036854775807∧Below w.heap.size w W:=by
 refine⟨_,_,Lib.run_convert_string_bytes (P:=Tryz.prog) w 9 22 5 X Tryz.underlying9 Tryz.underlying22 Tryz.underlying5,.inr ⟨_,_,rfl,fun i hi=>?_⟩,grownCap_ge w _ _ _,?_,⟨rfl,rfl,rfl,by rw[Lib.bytesWorld_size];omega,fun k hk=>Lib.bytesWorld_at_old w _ X k hk⟩⟩
 ·rw[Nat.zero_add];exact Lib.bytesWorld_cell w _ X i hi
 ·have:=grownCap_le_maxLen w X.size 0 5 (by unfold maxLen;omega)
  unfold maxLen at this;omega
/--repeatable. -/
theorem fT(k:Int)(w:World):Calls Tryz.prog 117 #[.int .i64 k] w fun e w'=>e=.returned (.bool (repB k))∧w'=w:=by
 go_enter Tryz.func117,Tryz.ntmps117
 go_wp2
 all_goals(go_ret;exact⟨by simp_all[repB],rfl⟩)
end Go.Proofs.YtgbkolonhddolaaGreatDoor.tre
namespace Go.Proofs.YtgbkolonhddolaaGreatDoor.tre
open Go.RowKit nod
open rng(R RV aH ag below_drewN info_parts own_below')
open tok(PEnv TX ak)
theorem BU(n:ByteArray)(ng:Bool)(hn:n.size≤140737488355327):(jO n ng).size≤140737488355331:=by
 unfold jO
 have e:∀x y:ByteArray,x.size≤3→y.size≤1→((x++n)++y).size≤140737488355331:=fun x y hx hy=>by rw[ByteArray.size_append,ByteArray.size_append];omega
 cases ng<;>(repeat' split)<;>first|decide|exact e _ _ (by decide) (by decide)|simp_all
theorem str_eq(x y:ByteArray):(x.toList==y.toList)=decide (x=y):=by
 rw[Bool.eq_iff_iff,beq_iff_eq,decide_eq_true_eq]
 refine⟨fun h=>?_,fun h=>by rw[h]⟩
 rw[Lib.toList_data,Lib.toList_data]at h
 obtain⟨⟨x⟩⟩:=x
 obtain⟨⟨y⟩⟩:=y
 simpa using h
theorem upD(t:ByteArray)(u:List UInt8)(h:t.data.toList=u):t=⟨u.toArray⟩:=by rw[←h]
theorem kr(x y:UInt8)(hx:x=100∧y=68∨x=119∧y=87∨x=115∧y=83)(ng:Bool)(w:World):Calls Tryz.prog 115 #[.string ⟨#[x]⟩,.bool ng] w fun e w'=>e=.returned (.string (if ng then⟨#[92,y]⟩else⟨#[92,x]⟩))∧Below w.heap.size w w':=by
 have U:=Tryz.strings_ToUpper_ascii ⟨#[x]⟩ w (by show 1≤_;omega) (fun j b hj=>by
  match j,hj with
  |0,hj=>simp at hj;subst hj;rcases hx with⟨rfl,_⟩|⟨rfl,_⟩|⟨rfl,_⟩<;>decide
  |k+1,hj=>simp at hj)
 have eu:(⟨(Lib.toUpperA (ByteArray.data ⟨#[x]⟩).toList).toArray⟩:ByteArray)=⟨#[y]⟩:=by rcases hx with⟨rfl,rfl⟩|⟨rfl,rfl⟩|⟨rfl,rfl⟩<;>decide
 rw[eu]at U
 have s1:ByteArray.size ⟨#[92]⟩=1:=rfl
 have s2:ByteArray.size ⟨#[x]⟩=1:=rfl
 have s3:ByteArray.size ⟨#[y]⟩=1:=rfl
 have HR:Hid (Below w.heap.size w w):=Below.refl _ w
 cases ng
 ·rcases hx with⟨rfl,rfl⟩|⟨rfl,rfl⟩|⟨rfl,rfl⟩
  all_goals
   clear eu U
   go_enter Tryz.func115,Tryz.ntmps115
   go_wp2
   go_ret
   exact⟨rfl,HR.out⟩
 ·rcases hx with⟨rfl,rfl⟩|⟨rfl,rfl⟩|⟨rfl,rfl⟩
  all_goals
   clear eu
   go_enter Tryz.func115,Tryz.ntmps115
   go_wp2_with(go_at_call 109;refine U.mono ?_;rintro e w1⟨rfl,d⟩;have HW:Hid (Below w.heap.size w w1):=d;clear d)
   go_ret
   exact⟨rfl,HW.out⟩
theorem FX(n:ByteArray)(ng:Bool)(hn:n.size≤140737488355327)(w:World):Calls Tryz.prog 115 #[.string n,.bool ng] w fun e w'=>e=.returned (.string (jO n ng))∧Below w.heap.size w w':=by
 unfold jO
 by_cases c1:n=⟨#[100]⟩
 ·rw[if_pos c1];subst c1;exact kr 100 68 (by simp) ng w
 by_cases c2:n=⟨#[119]⟩
 ·rw[if_neg c1,if_pos c2];subst c2;exact kr 119 87 (by simp) ng w
 by_cases c3:n=⟨#[115]⟩
 ·rw[if_neg c1,if_neg c2,if_pos c3];subst c3;exact kr 115 83 (by simp) ng w
 rw[if_neg c1,if_neg c2,if_neg c3]
 have l1:(n.toList==[100])=false:=by rw[beq_eq_false_iff_ne];exact fun h=>c1 (upD n _ (by rw[←Lib.toList_data];exact h))
 have l2:(n.toList==[119])=false:=by rw[beq_eq_false_iff_ne];exact fun h=>c2 (upD n _ (by rw[←Lib.toList_data];exact h))
 have l3:(n.toList==[115])=false:=by rw[beq_eq_false_iff_ne];exact fun h=>c3 (upD n _ (by rw[←Lib.toList_data];exact h))
 have s1:ByteArray.size ⟨#[92,112,123]⟩=3:=rfl
 have s2:ByteArray.size ⟨#[92,80,123]⟩=3:=rfl
 have s3:ByteArray.size ⟨#[125]⟩=1:=rfl
 have HR:Hid (Below w.heap.size w w):=Below.refl _ w
 clear c1 c2 c3
 cases ng
 ·rw[if_neg (by simp)]
  obtain⟨Y,hY⟩:∃Y,(⟨#[92,112,123]⟩:ByteArray)++n=Y:=⟨_,rfl⟩
  have d1:Y.size=n.size+3:=by rw[←hY,ByteArray.size_append,s1];omega
  rw[hY]
  go_enter Tryz.func115,Tryz.ntmps115
  go_wp2
  go_ret
  exact⟨rfl,HR.out⟩
 ·rw[if_pos rfl]
  obtain⟨Y,hY⟩:∃Y,(⟨#[92,80,123]⟩:ByteArray)++n=Y:=⟨_,rfl⟩
  have d1:Y.size=n.size+3:=by rw[←hY,ByteArray.size_append,s2];omega
  rw[hY]
  go_enter Tryz.func115,Tryz.ntmps115
  go_wp2
  go_ret
  exact⟨rfl,HR.out⟩
theorem mD(X n:ByteArray)(hX:X.size≤9223372036854775807)(w:World)(hm:utf.Marks w):Calls Tryz.prog 116 #[.string X,.string n] w fun e w'=>e=.returned (.bool (fU X n))∧Below w.heap.size w w':=by
 obtain⟨W0,cp0,CV0,IB0,hcp0,hcq0,b0⟩:=convB w X hX
 have C2:=tok.yT _ X.size cp0 (sfB X) W0 IB0 (hm.below b0) (sfB_in X) hcp0 hcq0
 unfold fU
 generalize tok.bD (sfB X) X.size=Q at*
 obtain⟨L,q,p⟩:=Q
 simp only[]at C2⊢
 have HB0:Hid (Below w.heap.size w W0):=b0
 generalize X.size=N at*
 obtain⟨r,hr⟩:∃r,((q==0)&&decide (L.map (fun k=>lin.BA k.name)=[n]))=r:=⟨_,rfl⟩
 rw[hr]
 have HRr:=hd40 hr
 clear hm IB0 b0 hr
 go_enter Tryz.func116,Tryz.ntmps116
 go_wp2_with fail
 clear CV0
 refine C2.mono ?_
 rintro e w2⟨v1,rfl,ho1,hb2⟩
 clear C2
 obtain⟨ta,tc,rfl,htc,hv⟩:=tok.yK ho1
 have HB2:Hid (Below w.heap.size w (w2.alloc (.cells #[.int .i64 q,.int .i64 (p:Int)] 29))):=(HB0.out.trans (hb2.mono HB0.out.size)).trans ((Below.refl _ w2).alloc (Nat.le_trans HB0.out.size hb2.size) _)
 have jd:Hid (Below w2.heap.size w2 (w2.alloc (.cells #[.int .i64 q,.int .i64 (p:Int)] 29))):=(Below.refl _ _).alloc (Nat.le_refl _) _
 by_cases hq:q=0
 ·subst hq
  rcases L with _|⟨t,_|⟨u,L'⟩⟩
  ·clear hv ho1 hb2
   have HE:Hid (r=false):=by unfold Hid;rw[←HRr.out];simp
   clear HRr
   go_wp2
   go_ret
   exact⟨by rw[HE.out];rfl,HB2.out⟩
  ·obtain⟨g,rfl,-,hgl,hat⟩:=hv (by simp)
   have A4:=(hat 0 t rfl).below jd.out
   have a4:=A4.c4
   simp only[Nat.zero_mul,Nat.zero_add]at a4
   have HE:Hid (r=((lin.BA t.name).toList==n.toList)):=by unfold Hid;rw[←HRr.out,str_eq];simp
   clear hv ho1 hb2 hat A4 HRr
   generalize lin.BA t.name=Z at*
   go_wp2
   go_ret
   exact⟨by rw[HE.out];exact ag (by simp),HB2.out⟩
  ·have e1:((((t::u::L').length:Nat):Int)==1)=false:=by simp;omega
   have HE:Hid (r=false):=by unfold Hid;rw[←HRr.out];simp
   clear HRr
   generalize(t::u::L').length=m at*
   clear hv ho1 hb2
   go_wp2
   go_ret
   exact⟨by rw[HE.out];rfl,HB2.out⟩
 ·have f1:(q==0)=false:=by simpa using hq
  have HE:Hid (r=false):=by unfold Hid;rw[←HRr.out,f1];rfl
  clear HRr
  generalize L.length=m at*
  clear hv ho1 hb2
  go_wp2
  go_ret
  exact⟨by rw[HE.out];rfl,HB2.out⟩
end Go.Proofs.YtgbkolonhddolaaGreatDoor.tre
namespace Go.Proofs.YtgbkolonhddolaaGreatDoor.tre
open Go.RowKit nod
open rng(R RV aH ag below_drewN info_parts own_below')
open tok(PEnv TX ak)
theorem aA{w0 W w':World}{base g:Nat}{P:Option Wr}(e:P=none)(k:Kt base W w'):Ending.returned (.bool false)=Ending.returned (.bool P.isSome)∧(∀s',P=some s'→Cx w0 w' base g s')∧Kt base W w':=by
 subst e;exact⟨rfl,fun s' e=>(by cases e),k⟩
theorem Cm{w0 W w':World}{base g:Nat}{P:Option Wr}{s':Wr}(e:P=some s')(c:Cx w0 w' base g s')(k:Kt base W w'):Ending.returned (.bool true)=Ending.returned (.bool P.isSome)∧(∀s',P=some s'→Cx w0 w' base g s')∧Kt base W w':=by
 subst e;exact⟨rfl,fun s e=>(by cases e;exact c),k⟩
/--The writer s, and beside it the node that a call that began in W keeps in block z. -/
structure Sn(w0 W:World)(base g z:Nat)(box:Array Value)(s:Wr)(w':World):Prop where
 cx:Cx w0 w' base g s
 kt:Kt base W w'
 bk:Bk w' z box 26
theorem Sn.start{w0 W:World}{base g:Nat}{s:Wr}(c:Cx w0 W base g s)(box:Array Value):Sn w0 W base g W.heap.size box s (W.alloc (.cells box 26)):=
 ⟨c.on ((Below.refl _ W).alloc (Nat.le_refl _) _),c.kt ((Below.refl _ W).alloc (Nat.le_refl _) _),Bk.new W _ _⟩
theorem Sn.quiet{w0 W w' w'':World}{base g z:Nat}{box:Array Value}{s:Wr}(S:Sn w0 W base g z box s w')(d:Below w'.heap.size w' w''):Sn w0 W base g z box s w'':=
 ⟨S.cx.on d,S.kt.trans (S.cx.kt d),S.bk.on d⟩
theorem Sn.wrote{w0 W w' w'':World}{base g z:Nat}{box:Array Value}{s s':Wr}(S:Sn w0 W base g z box s w')(k:Kt base w' w'')(c:Cx w0 w'' base g s'):Sn w0 W base g z box s' w'':=
 ⟨c,S.kt.trans k,Bk.kt S.bk k iV.1 iV.2.1 iV.2.2⟩
theorem Met.sn{f:FuncId}{args:Array Value}{w0 W W':World}{base g z:Nat}{box:Array Value}{s:Wr}{P:Option Wr}(h:Met f args w0 W' base g P)(S:Sn w0 W base g z box s W'):
 Calls Tryz.prog f args W' fun e w'=>e=.returned (.bool P.isSome)∧(∀s',P=some s'→Cx w0 w' base g s')∧Kt base W w':=h.mono fun e w'⟨h1,h2,h3⟩=>⟨h1,h2,S.kt.trans h3⟩
theorem Met.nV{f:FuncId}{args:Array Value}{w0 W W':World}{base g z:Nat}{box:Array Value}{s:Wr}{P:Option Wr}(h:Met f args w0 W' base g P)(e:P=none)(S:Sn w0 W base g z box s W'):
 Calls Tryz.prog f args W' fun e w'=>e=.returned (.bool false)∧Kt base W w':=(h.no e).mono fun e w'⟨h1,h3⟩=>⟨h1,S.kt.trans h3⟩
theorem Met.nU{f:FuncId}{args:Array Value}{w0 W W':World}{base g z:Nat}{box:Array Value}{s s':Wr}{P:Option Wr}(h:Met f args w0 W' base g P)(e:P=some s')(S:Sn w0 W base g z box s W'):
 Calls Tryz.prog f args W' fun e w'=>e=.returned (.bool true)∧Sn w0 W base g z box s' w':=(h.ok e).mono fun e w'⟨h1,h2,h3⟩=>⟨h1,S.wrote h3 h2⟩
theorem quiet_of{f:FuncId}{args:Array Value}{v:Value}{w0 W W':World}{base g z:Nat}{box:Array Value}{s:Wr}(S:Sn w0 W base g z box s W')(h:Calls Tryz.prog f args W' fun e w'=>e=.returned v∧Below W'.heap.size W' w'):
 Calls Tryz.prog f args W' fun e w'=>e=.returned v∧Sn w0 W base g z box s w':=h.mono fun e w'⟨h1,h2⟩=>⟨h1,S.quiet h2⟩
theorem yO{f:FuncId}{args:Array Value}{v:Value}{w0 W W':World}{base g z:Nat}{box:Array Value}{s:Wr}(S:Sn w0 W base g z box s W')(h:Calls Tryz.prog f args W' fun e w'=>e=.returned v∧w'=W'):
 Calls Tryz.prog f args W' fun e w'=>e=.returned v∧Sn w0 W base g z box s w':=h.mono fun e w'⟨h1,h2⟩=>⟨h1,by rw[h2];exact S⟩
/--A kid's cells. -/
theorem Sn.kid{w0 W w':World}{base g z:Nat}{box:Array Value}{s:Wr}(S:Sn w0 W base g z box s w'){kb ko:Nat}{c0 c1 c2 c3 c4 c5 c6 c7:Value}(h:nE w0 kb ko (.agg #[c0,c1,c2,c3,c4,c5,c6,c7]))(hk:kb<base):
  w'.cell? ⟨kb,ko,none⟩=some c0∧w'.cell? ⟨kb,ko+1,none⟩=some c1∧w'.cell? ⟨kb,ko+2,none⟩=some c2∧w'.cell? ⟨kb,ko+3,none⟩=some c3∧w'.cell? ⟨kb,ko+4,none⟩=some c4∧w'.cell? ⟨kb,ko+5,none⟩=some c5∧w'.cell? ⟨kb,ko+6,none⟩=some c6∧w'.cell? ⟨kb,ko+7,none⟩=some c7:=by
 obtain⟨_,_,_,_,_,_,_,_,ee,k0,k1,k2,k3,k4,k5,k6,k7⟩:=h.below S.cx.c.bel hk
 simp only[Value.agg.injEq,Array.mk.injEq,List.cons.injEq,and_true]at ee
 obtain⟨rfl,rfl,rfl,rfl,rfl,rfl,rfl,rfl⟩:=ee
 exact⟨k0,k1,k2,k3,k4,k5,k6,k7⟩
/--othersZero beside the writer. -/
theorem dY{w0 W W':World}{base g z:Nat}{box:Array Value}{s:Wr}(S:Sn w0 W base g z box s W')(k m a b:Int)(ng:Bool)(n:ByteArray)(st:List R)(ks:List Nd)(sa:Option Addr)(sl sc:Nat)(ao:Option Addr)(nk cap:Nat)(hsl:st.length=sl)(hnk:ks.length=nk)(q:Bool)(hq:othersZ (.mk k m a b ng n st ks)=q):
  Calls Tryz.prog 67 #[.agg #[.int .i64 k,.int .i64 m,.int .i64 a,.int .i64 b,.bool ng,.string n,.slice sa sl sc,.slice ao nk cap]] W' fun e w'=>e=.returned (.bool q)∧Sn w0 W base g z box s w':=by
 rw[←hq];exact quiet_of S (JM k m a b ng n st ks sa sl sc ao nk cap W' hsl hnk)
end Go.Proofs.YtgbkolonhddolaaGreatDoor.tre
