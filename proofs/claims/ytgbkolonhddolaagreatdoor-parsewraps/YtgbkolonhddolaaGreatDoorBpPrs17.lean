import Derived.Test.YtgbkolonhddolaaGreatDoorBpPrs16
import Derived.Test.YtgbkolonhddolaaGreatDoorBpPrs15
import Derived.Test.YtgbkolonhddolaaGreatDoorBpNod1
set_option linter.unusedSimpArgs false
set_option linter.unusedVariables false
set_option maxRecDepth 100000
set_option maxHeartbeats 1000000
theorem Go.Proofs.YtgbkolonhddolaaGreatDoor.hd15{p:Prop}(h:p):Go.RowKit.Hid p:=h
namespace Go.Proofs.YtgbkolonhddolaaGreatDoor.prs
open Go.RowKit nod tok
open lin(BA)
open tre(Pw)
/--The wrapped Ga bytes. -/
def uT(O:ByteArray)(f:Nat→Int)(n:Nat):Nat→Int:=kV (kV (Fw O) O.size f) (O.size+n) fun _=>41
theorem I7{ao:Option Addr}{n cap bb:Nat}{f:Nat→Int}{w:World}(O:ByteArray)(hO:O.size≤10)(Cw:w.cell? ⟨bb,0,none⟩=some (.slice ao n cap))(hB:utf.oM w ao n f)(hnil:ao=none→n=0)(E:PEnv w)(hw:Pw w)(hf:∀i,0≤f i∧f i≤255)(hn:n≤400):
  Calls Tryz.prog 11 #[.string O,.pointer (some ⟨bb,0,none⟩)] w fun e w'=>Pd w (ax bU (uT O f n) (O.size+n+1)) e w':=by
 have B2:Below w.heap.size w ((w.alloc (.cells #[.int .i64 0,.int .i64 0,.int .i64 0,.int .i64 0,.bool false,.string ⟨#[]⟩,.slice none 0 0,.slice none 0 0] 26)).alloc (.cells #[.int .i64 0,.int .i64 0] 29)):=((Below.refl _ w).alloc (Nat.le_refl _) _).alloc (by simp) _
 have N2:Bk ((w.alloc (.cells #[.int .i64 0,.int .i64 0,.int .i64 0,.int .i64 0,.bool false,.string ⟨#[]⟩,.slice none 0 0,.slice none 0 0] 26)).alloc (.cells #[.int .i64 0,.int .i64 0] 29)) w.heap.size #[.int .i64 0,.int .i64 0,.int .i64 0,.int .i64 0,.bool false,.string ⟨#[]⟩,.slice none 0 0,.slice none 0 0] 26:=(Bk.new w _ _).on ((Below.refl _ _).alloc (Nat.le_refl _) _)
 have F2:Bk ((w.alloc (.cells #[.int .i64 0,.int .i64 0,.int .i64 0,.int .i64 0,.bool false,.string ⟨#[]⟩,.slice none 0 0,.slice none 0 0] 26)).alloc (.cells #[.int .i64 0,.int .i64 0] 29)) (w.heap.size+1) #[.int .i64 0,.int .i64 0] 29:=by
  have:=Bk.new (w.alloc (.cells #[.int .i64 0,.int .i64 0,.int .i64 0,.int .i64 0,.bool false,.string ⟨#[]⟩,.slice none 0 0,.slice none 0 0] 26)) #[.int .i64 0,.int .i64 0] 29
  simpa using this
 obtain⟨w2,hw2⟩:∃w2,((w.alloc (.cells #[.int .i64 0,.int .i64 0,.int .i64 0,.int .i64 0,.bool false,.string ⟨#[]⟩,.slice none 0 0,.slice none 0 0] 26)).alloc (.cells #[.int .i64 0,.int .i64 0] 29))=w2:=⟨_,rfl⟩
 have HW2:=hd15 hw2
 rw[hw2]at B2 N2 F2
 have HZ:Hid (w2.heap.size=w.heap.size+2):=by unfold Hid;rw[←hw2];simp
 obtain⟨v3,w3,R3,BR3,B3⟩:=conv_br w2 O (by omega)
 have B03:Below w.heap.size w w3:=B2.trans (B3.mono (by have:=HZ.out;omega))
 have hlb:=World.block_lt_of_cell? w _ Cw
 have x1:=(B03.cell (p:=⟨bb,0,none⟩) hlb).trans Cw
 obtain⟨v4,w4,R4,BR4,B4⟩:=xQ (c:=cap) 22 BR3 (hB.below B03) hnil B3.size (by omega)
 have B04:=B03.trans (B4.mono (by have:=HZ.out;omega))
 have B5:Below w4.heap.size w4 (w4.alloc (.cells #[.int .u8 41] 5)):=(Below.refl _ w4).alloc (Nat.le_refl _) _
 have I5:utf.oM (w4.alloc (.cells #[.int .u8 41] 5)) (some ⟨w4.heap.size,0,none⟩) 1 fun _=>41:=.inr ⟨_,0,rfl,fun i hi=>by
  obtain rfl:i=0:=by omega
  exact(Bk.new w4 #[.int .u8 41] 5).cell 0 rfl⟩
 obtain⟨v6,w6,R6,BR6,B6⟩:=xQ (c:=1) 22 (BR4.below B5) I5 (fun e=>by cases e) (by have:=B3.size;have:=B4.size;have:=B5.size;omega) (by omega)
 have B26:Below w2.heap.size w2 w6:=((B3.trans B4).trans (ae B5 (by have:=B3.size;have:=B4.size;omega))).trans B6
 have DT:Below w.heap.size w w6:=B2.trans (B26.mono (by have:=HZ.out;omega))
 have CP:=zi BR6 (E.below DT) (hw.on DT) (mK (mK (Fv O) hf) fun _=>by decide) (by omega)
 have HN6:=hd15 (N2.on B26)
 have HF6:=hd15 (F2.on B26)
 have uP:Hid (Below w.heap.size w w6):=DT
 have Mq:Hid (w2.heap.size≤w6.heap.size):=B26.size
 obtain⟨RR,hRR⟩:∃RR,ax bU (uT O f n) (O.size+n+1)=RR:=⟨_,rfl⟩
 change Calls _ _ _ _ fun e w'=>Pd w6 (ax bU (uT O f n) (O.size+n+1)) e w' at CP
 rw[hRR]at CP⊢
 clear hRR hw2 B2 N2 F2 BR3 B3 B03 hlb BR4 B4 B04 B5 I5 BR6 B6 B26 DT Cw hB E hw hf
 go_enter Tryz.func11,Tryz.ntmps11
 go_upto_region 1 with fail
 rw[HW2.out]
 clear HW2
 go_wp2_with(first
  |(at_builtin;refine lX rfl _ _ rfl rfl rfl R4 ?_)
  |(at_builtin;refine lX rfl _ _ rfl rfl rfl R6 ?_))
 refine CP.mono ?_
 rintro e w7⟨⟨yk,ym,ya,yb,yg,yn,fB,fw,fA⟩,rfl,hfz,lI⟩
 clear CP
 obtain⟨t,c,p⟩:=RR
 simp only at hfz
 dsimp only[a8]
 have N8:=HN6.out.on lI
 have F8:=HF6.out.on lI
 have mW:Below w.heap.size w w7:=uP.out.trans (ae lI uP.out.size)
 have hkeep:Fz (fun k=>w.heap.size≤k) (dK w7 w.heap.size (w.heap.size+1) ⟨yk,ym,ya,yb,yg,yn,fB,fw,fA⟩ c p) t (a8 ⟨yk,ym,ya,yb,yg,yn,fB,fw,fA⟩):=hfz.to (vS _ _ _ _ _ _) fun k hk hd=>⟨sU hk (by have:=HZ.out;have:=Mq.out;omega) (by have:=HZ.out;have:=Mq.out;omega) _ c p,by have:=HZ.out;have:=Mq.out;omega⟩
 have kM:Hid (∀tm:Array Value,tm.getD 3 undef=.pointer (some ⟨w.heap.size,0,none⟩)→tm.getD 4 undef=.pointer (some ⟨w.heap.size+1,0,none⟩)→(results Tryz.f11 tm).run Tryz.prog (dK w7 w.heap.size (w.heap.size+1) ⟨yk,ym,ya,yb,yg,yn,fB,fw,fA⟩ c p)=.ok (.tuple #[a8 ⟨yk,ym,ya,yb,yg,yn,fB,fw,fA⟩,.agg #[.int .i64 c,.int .i64 p]]) (dK w7 w.heap.size (w.heap.size+1) ⟨yk,ym,ya,yb,yg,yn,fB,fw,fA⟩ c p)):=fun tm h2 h3=>jV Tryz.results11 tm N8 F8 (by omega) ⟨yk,ym,ya,yb,yg,yn,fB,fw,fA⟩ c p h2 h3
 have Mg:Hid (Pd w (t,c,p) (.returned (.tuple #[a8 ⟨yk,ym,ya,yb,yg,yn,fB,fw,fA⟩,.agg #[.int .i64 c,.int .i64 p]])) (dK w7 w.heap.size (w.heap.size+1) ⟨yk,ym,ya,yb,yg,yn,fB,fw,fA⟩ c p)):=⟨⟨yk,ym,ya,yb,yg,yn,fB,fw,fA⟩,rfl,hkeep,gP mW (Nat.le_refl _) (Nat.le_succ _) ⟨yk,ym,ya,yb,yg,yn,fB,fw,fA⟩ _ _⟩
 have g0:=N8.cell 0 rfl
 have g1:=N8.cell 1 rfl
 have g2:=N8.cell 2 rfl
 have g3:=N8.cell 3 rfl
 have g4:=N8.cell 4 rfl
 have g5:=N8.cell 5 rfl
 have g6:=N8.cell 6 rfl
 have g7:=N8.cell 7 rfl
 have e0:=N8.frozen 0
 have e1:=N8.frozen 1
 have e2:=N8.frozen 2
 have e3:=N8.frozen 3
 have e4:=N8.frozen 4
 have e5:=N8.frozen 5
 have e6:=N8.frozen 6
 have e7:=N8.frozen 7
 have k0':=F8.cell 0 rfl
 have k1':=F8.cell 1 rfl
 have l0':=F8.frozen 0
 have l1':=F8.frozen 1
 clear N8 F8 mW hkeep hfz lI HN6 HF6 uP Mq HZ
 go_wp2
 refine bodyPost_ret (w:=dK w7 w.heap.size (w.heap.size+1) ⟨yk,ym,ya,yb,yg,yn,fB,fw,fA⟩ c p) (kM.out _ rfl rfl) rfl Mg.out
end Go.Proofs.YtgbkolonhddolaaGreatDoor.prs
namespace Go.Proofs.YtgbkolonhddolaaGreatDoor.prs
open nod tok
open tre(grpN grpL)
theorem open153{s s':PS}{t:Tk}(hd:s'.depth=s.depth)(h:dN s t=.error 153):dN s' t=.error 153:=by
 unfold dN at h⊢
 split at h
 ·rename_i e;rw[if_pos (hd.trans e)]
 split at h
 ·simp at h
 split at h
 ·simp at h
 ·cases h
theorem Ap{s s':PS}{t:Tk}(hd:s'.depth=s.depth)(h:aD s t=.error 153):aD s' t=.error 153:=by
 unfold aD at h⊢
 split at h
 ·rename_i e;rw[if_pos (hd.trans e)]
 ·cases h
theorem Ka{s s':PS}{t:Tk}(hc:s'.cs=s.cs)(hd:s'.depth=s.depth)(h:memS s t=.error 153):memS s' t=.error 153:=by
 unfold memS at h⊢
 rw[hc]
 cases e:s.cs with
 |nil=>rw[e]at h;simp at h
 |cons c r=>
  rw[e]at h
  dsimp only at h⊢
  split at h
  ·cases h
  rename_i k1
  split at h
  ·rename_i k2;rw[if_neg k1,if_pos k2];exact Ap hd h
  ·simp at h
theorem out153{s s':PS}{t:Tk}(hd:s'.depth=s.depth)(h:outS s t=.error 153):outS s' t=.error 153:=by
 unfold outS at h⊢
 split at h
 ·rename_i k;rw[if_pos k];exact open153 hd h
 rename_i k3
 split at h
 ·unfold closeS at h;split at h
  ·cases h
  ·simp at h
 rename_i k4
 split at h
 ·cases h
 rename_i k5
 split at h
 ·split at h
  ·simp at h
  ·rename_i b r _
   unfold repB at h
   cases hl:b.pts.getLast? with
   |none=>rw[hl]at h;simp at h
   |some l=>
    rw[hl]at h
    dsimp only at h
    by_cases hk:l.kind=8∨l.kind=10∨l.kind=12
    ·rw[if_pos hk]at h;simp at h
    ·rw[if_neg hk]at h;simp at h
 rename_i k6
 split at h
 ·unfold dP at h;split at h
  ·simp at h
  ·cases h
 rename_i k9
 split at h
 ·rename_i k;rw[if_neg k3,if_neg k4,if_neg k5,if_neg k6,if_neg k9,if_pos k];exact Ap hd h
 ·cases h
theorem fur153{s s':PS}{t:Tk}(hc:s'.cs=s.cs)(hd:s'.depth=s.depth)(h:dZ s t=.error 153):dZ s' t=.error 153:=by
 unfold dZ at h⊢
 split at h
 ·unfold endS at h;split at h
  ·simp at h
  ·cases h
  ·cases h
 rename_i k1
 split at h
 ·split at h
  ·simp at h
  ·cases h
 rename_i k2
 split at h
 ·split at h
  ·simp at h
  ·split at h
   ·cases h
   ·simp at h
 rename_i k3
 rw[if_neg k1,if_neg k2,if_neg k3]
 exact Ka hc hd h
theorem JB{s:PS}{t:Tk}(h:gD s t=.error 153):False:=by
 unfold gD at h
 split at h
 ·simp at h
 split at h
 ·simp at h
 split at h
 ·simp at h
 split at h
 ·simp at h
 ·cases h
theorem step153{s s':PS}{t:Tk}(hn:s'.next=s.next)(hc:s'.cs=s.cs)(hd:s'.depth=s.depth)(h:stepS s t=.error 153):stepS s' t=.error 153:=by
 unfold stepS at h⊢
 rw[hn]
 rcases e:s.next with _|_|_|m
 ·rw[e]at h;exact out153 hd h
 ·rw[e]at h;exact Ka hc hd h
 ·rw[e]at h;exact fur153 hc hd h
 ·rw[e]at h;exact(JB h).elim
theorem En{s:PS}{t:Tk}(hk:t.kind=4)(h:memS s t=.error 153):False:=by
 unfold memS at h
 split at h
 ·simp at h
 ·rw[if_neg (by rw[hk];decide),if_neg (by rw[hk];decide)]at h;simp at h
theorem outc153{s:PS}{t:Tk}(hk:t.kind=4)(h:outS s t=.error 153):False:=by
 unfold outS at h
 rw[if_neg (by rw[hk];decide),if_pos hk]at h
 unfold closeS at h
 split at h
 ·cases h
 ·simp at h
theorem furc153{s:PS}{t:Tk}(hk:t.kind=4)(h:dZ s t=.error 153):False:=by
 unfold dZ at h
 rw[if_neg (by rw[hk];decide),if_neg (by rw[hk];decide),if_neg (by rw[hk];decide)]at h
 exact En hk h
theorem Ll{s:PS}{t:Tk}(hk:t.kind=4)(h:stepS s t=.error 153):False:=by
 unfold stepS at h
 rcases e:s.next with _|_|_|m
 ·rw[e]at h;exact outc153 hk h
 ·rw[e]at h;exact En hk h
 ·rw[e]at h;exact furc153 hk h
 ·rw[e]at h;exact JB h
theorem yG{a a':Nd}{pre pre':List Nd}{und:List Bd}{ns ns':List (List UInt8)}:∀{ts:List Tk}{gF:List Bd}{b:Bd}{s sf x:PS},runS s ts=.ok sf→s.bs=gF++[b]→sf.nm=[]→(∀t∈ts,mX t)→
  runS (deep a pre und ns gF b s) ts=.ok x→∀i,runS (deep a' pre' und ns' gF b s) ts≠.error (153,i)
 |[],gF,b,s,sf,x,h,hb,hn,ht,hx,i=>by intro h';cases h'
 |t::ts,gF,b,s,sf,x,h,hb,hn,ht,hx,i=>by
  intro h'
  rw[runS]at h hx h'
  split at h
  ·rename_i s1 hs
   have hn1:=BJ h hn
   obtain⟨mP,b1,hb1,h1⟩:=o6 (a:=a) (pre:=pre) (und:=und) (ns:=ns) hs hb (qP hs hn1) hn1 (ht t (by simp))
   obtain⟨inn2,b2,hb2,h2⟩:=o6 (a:=a') (pre:=pre') (und:=und) (ns:=ns') hs hb (qP hs hn1) hn1 (ht t (by simp))
   obtain⟨rfl,e⟩:=List.append_inj' (hb1.symm.trans hb2) rfl
   obtain rfl:b1=b2:=by simpa using e
   rcases h1 with h1|⟨h1,_⟩
   ·rcases h2 with h2|⟨h2,_⟩
    ·rw[h1]at hx
     rw[h2]at h'
     exact yG h hb1 hn (fun y hy=>ht y (by simp[hy])) hx i h'
    ·have:=step153 (s:=deep a' pre' und ns' gF b s) (s':=deep a pre und ns gF b s) rfl rfl (by simp[PS.depth,deep]) h2
     rw[h1]at this
     cases this
   ·rw[h1]at hx;cases hx
  ·cases h
/--Within a bracket: the machine behind the opening token. -/
theorem Eh{o:Tk}(ho:o.kind=3):stepS s0 o=.ok (deep (kJ o (if numbered o then[o.name]else[]).length) [] [b0] (if numbered o then[o.name]else[]) [] b0 s0):=by
 show outS s0 o=_
 unfold outS dN
 rw[if_pos ho,if_neg (by decide),if_neg (by simp[s0]),if_neg (by simp[s0])]
 rfl
theorem sh_ok(d:Nat):∀{ts:List Tk}{s x:PS},runS s (ts.map (sh d))=.ok x→runS s ts=.ok x
 |[],s,x,h=>h
 |t::ts,s,x,h=>by
  rw[List.map_cons,runS,wM]at h
  rw[runS]
  split at h
  ·exact sh_ok d h
  ·cases h
theorem Jl(d:Nat):∀{ts:List Tk}{s:PS}{c:Int}{i:Nat},runS s (ts.map (sh d))=.error (c,i)→∃i',runS s ts=.error (c,i')
 |[],s,c,i,h=>by cases h
 |t::ts,s,c,i,h=>by
  rw[List.map_cons,runS,wM]at h
  rw[runS]
  split at h
  ·exact Jl d h
  ·cases h;exact⟨_,rfl⟩
theorem IZ{ts:List Tk}{sf x:PS}{d d':Nat}(h:runS s0 ts=.ok sf)(hn:sf.nm=[])(hf:∀t∈ts,mX t){o o' c c':Tk}(ho:o.kind=3)(ho':o'.kind=3)(hc':c'.kind=4)
  (hx:runS s0 (o::(ts.map (sh d)++[c]))=.ok x)(i:Nat):runS s0 (o'::(ts.map (sh d')++[c']))≠.error (153,i):=by
 intro h'
 rw[runS,Eh ho]at hx
 rw[runS,Eh ho']at h'
 dsimp only at hx h'
 rw[run_snoc]at hx h'
 cases e:runS (deep (kJ o (if numbered o then[o.name]else[]).length) [] [b0] (if numbered o then[o.name]else[]) [] b0 s0) (ts.map (sh d))with
 |error y=>rw[e]at hx;cases hx
 |ok y=>
  have hd:=yG (a':=kJ o' (if numbered o' then[o'.name]else[]).length) (pre':=[]) (ns':=if numbered o' then[o'.name]else[]) h (gF:=[]) (b:=b0) rfl hn hf (sh_ok d e)
  cases e':runS (deep (kJ o' (if numbered o' then[o'.name]else[]).length) [] [b0] (if numbered o' then[o'.name]else[]) [] b0 s0) (ts.map (sh d'))with
  |error z=>
   rw[e']at h'
   cases h'
   obtain⟨i',e2⟩:=Jl d' e'
   exact hd i' e2
  |ok z=>
   rw[e']at h'
   dsimp only at h'
   split at h'
   ·cases h'
   ·rename_i q hq
    cases h'
    exact Ll hc' hq
theorem Gb{bN:Nd→Bool}{f:Nat→Int}{n:Nat}(h:(ax bN f n).2.1=0):∃x,runS s0 (bD f n).1=.ok x:=by
 obtain⟨hc,sf,b,hr,_⟩:=zh h
 exact⟨sf,hr⟩
theorem EY{bN:Nd→Bool}{f g g':Nat→Int}{n d d':Nat}(hin:∀a k v a',token f n a k=.ok v a'→a<a')(hc:∀c p a k,token f n a k=.no c p→c≠0)
  (hg:∀i,i<n→g (d+i)=f i)(h41:g (d+n)=41){o:Tk}(hd:0<d)(ho:token g (d+n+1) 0 0=.ok (o,0) d)(hok:o.kind=3)
  (hg':∀i,i<n→g' (d'+i)=f i)(h41':g' (d'+n)=41){o':Tk}(hd':0<d')(ho':token g' (d'+n+1) 0 0=.ok (o',0) d')(hok':o'.kind=3)
  (h:(ax bN f n).2.1=0)(hz:grpN (ax bN f n).1=0)(hx:(ax bN g (d+n+1)).2.1=0):(ax bN g' (d'+n+1)).2.1≠153:=by
 obtain⟨hn,h0,hl,hf,sf,b,hr,hb,hcs,ha,ht⟩:=fJ h
 have hnm:=rZ hr hb hf ha (ht▸hz)
 intro h'
 obtain⟨x,hx'⟩:=Gb hx
 have hN:d+n+1≤2000:=(fJ hx).1
 have es:bD g (d+n+1)=scanR g (d+n+1) (d+n+1) 0 0:=by unfold bD;rw[if_pos hN]
 rw[es,oV f g n d hg h41 hin hc o hd ho h0 hl]at hx'
 by_cases hN':d'+n+1≤2000
 ·have es':bD g' (d'+n+1)=scanR g' (d'+n+1) (d'+n+1) 0 0:=by unfold bD;rw[if_pos hN']
  have ew':=oV f g' n d' hg' h41' hin hc o' hd' ho' h0 hl
  unfold ax at h'
  rw[es',ew']at h'
  unfold parseP at h'
  dsimp only at h'
  cases e:runS s0 ({o' with s:=0,e:=d'}::((scanR f n n 0 0).1.map (sh d')++[{bare 4 with s:=d'+n,e:=d'+n+1}]))with
  |ok y=>
   rw[e]at h'
   dsimp only at h'
   rw[if_neg (by decide)]at h'
   split at h'
   ·simp at h'
   ·split at h'
    ·split at h'<;>simp at h'
    ·simp at h'
  |error y=>
   obtain⟨q,i⟩:=y
   rw[e]at h'
   obtain rfl:q=153:=h'
   exact IZ hr hnm hf (o:={o with s:=0,e:=d}) (o':={o' with s:=0,e:=d'}) hok hok' rfl hx' i e
 ·unfold ax bD at h'
  rw[if_neg hN']at h'
  simp[parseP,runS]at h'
end Go.Proofs.YtgbkolonhddolaaGreatDoor.prs
namespace Go.Proofs.YtgbkolonhddolaaGreatDoor.prs
open Go.RowKit nod tok
open lin(BA)
open tre(Pw grpN)
theorem wJ{O:ByteArray}{f:Nat→Int}{n i:Nat}(h:i<n):uT O f n (O.size+i)=f i:=by
 unfold uT kV
 rw[if_pos (by omega),if_neg (by omega),Nat.add_sub_cancel_left]
theorem qM{O:ByteArray}{f:Nat→Int}{n:Nat}:uT O f n (O.size+n)=41:=by
 unfold uT kV
 rw[if_neg (by omega)]
theorem ll{O:ByteArray}{f:Nat→Int}{n i:Nat}(h:i<O.size):uT O f n i=Fw O i:=by
 unfold uT kV
 rw[if_pos (by omega),if_pos h]
/--The first token, a bracket that opens. -/
theorem yM{g:Nat→Int}{N:Nat}(h0:g 0=40)(hN:0<N):token g N 0 0=(open_ g N 0 1).with_ 0:=by
 unfold token point
 rw[if_pos hN,sJ g N 0 (by omega) (by omega),if_pos rfl,bind_ok,h0,if_neg (by decide),if_neg (by decide)]
 unfold outside
 rw[if_neg (by decide)]
 unfold tok.mark
 rfl
theorem Ff{g:Nat→Int}{N:Nat}(h0:g 0=40)(h1:g 1=63)(h2:g 2=58)(hN:3≤N):token g N 0 0=.ok (opening 1,0) 3:=by
 rw[yM h0 (by omega)]
 unfold open_
 rw[if_pos (by unfold at_;simp[h1];omega)]
 unfold bL
 rw[if_pos (by omega),bind_ok,h2,if_pos rfl]
 rfl
theorem Fg{g:Nat→Int}{N:Nat}(h0:g 0=40)(h1:g 1=63)(h2:g 2=60)(h3:g 3=110)(h4:g 4=62)(hN:5≤N):token g N 0 0=.ok (⟨3,2,0,0,[110],false,0,0⟩,0) 5:=by
 rw[yM h0 (by omega)]
 unfold open_
 rw[if_pos (by unfold at_;simp[h1];omega)]
 unfold bL
 rw[if_pos (by omega),bind_ok,h2,if_neg (by decide),if_neg (by decide),if_neg (by decide),if_neg (by decide),if_pos rfl]
 unfold bG
 rw[if_neg (by unfold at_;simp[h3]),if_neg (by unfold at_;simp[h3])]
 have hn:name g N 0 3=.ok [110] 5:=by
  unfold name
  rw[jQ]
  unfold bL
  rw[if_pos (by omega),bind_ok,h3,if_neg (by decide)]
  simp only[]
  rw[if_pos (by decide),jQ]
  unfold bL
  rw[if_pos (by omega),bind_ok,h4,if_pos (by decide)]
  show Out.ok (tok.bytes g 3 4) 5=_
  simp[tok.bytes,h3]
 rw[hn]
 rfl
def oP:ByteArray:=⟨#[40,63,58]⟩
def oN:ByteArray:=⟨#[40,63,60,110,62]⟩
/--What the law says, plainly. -/
theorem yE{f:Nat→Int}{n:Nat}(h:(ax bU f n).2.1=0)(hz:grpN (ax bU f n).1=0):
  let x:=ax bU (uT oP f n) (oP.size+n+1)
  let y:=ax bU (uT oN f n) (oN.size+n+1)
  (x.2.1=4∨y.2.1=4∨x.2.1=153)∨(x=(eB [.mk 9 0 0 0 false ⟨#[]⟩ [] [(ax bU f n).1]],0,0)∧y=(eB [.mk 9 0 1 0 false ⟨#[110]⟩ [] [(ax bU f n).1]],0,0)):=by
 intro x y
 have t1:token (uT oP f n) (oP.size+n+1) 0 0=.ok (opening 1,0) oP.size:=Ff (by rw[ll (by decide)];rfl) (by rw[ll (by decide)];rfl) (by rw[ll (by decide)];rfl) (by show 3≤3+n+1;omega)
 have t2:token (uT oN f n) (oN.size+n+1) 0 0=.ok (⟨3,2,0,0,[110],false,0,0⟩,0) oN.size:=Fg (by rw[ll (by decide)];rfl) (by rw[ll (by decide)];rfl) (by rw[ll (by decide)];rfl) (by rw[ll (by decide)];rfl) (by rw[ll (by decide)];rfl) (by show 5≤5+n+1;omega)
 have w1:=ry (bN:=bU) (f:=f) (g:=uT oP f n) (n:=n) (d:=oP.size) (fun i hi=>wJ hi) qM rD rE (by decide) t1 rfl h hz
 have w2:=ry (bN:=bU) (f:=f) (g:=uT oN f n) (n:=n) (d:=oN.size) (fun i hi=>wJ hi) qM rD rE (by decide) t2 rfl h hz
 have wd:=EY (bN:=bU) (f:=f) (g:=uT oP f n) (g':=uT oN f n) (n:=n) (d:=oP.size) (d':=oN.size) rD rE (fun i hi=>wJ hi) qM (by decide) t1 rfl (fun i hi=>wJ hi) qM (by decide) t2 rfl h hz
 rcases w1 with w1|w1|w1
 ·rcases w2 with w2|w2|w2
  ·exact .inr ⟨w1,w2⟩
  ·exact .inl (.inr (.inl w2))
  ·exact absurd w2 (wd (by rw[w1]))
 ·exact .inl (.inl w1)
 ·exact .inl (.inr (.inr w1))
end Go.Proofs.YtgbkolonhddolaaGreatDoor.prs
namespace Go.Proofs.YtgbkolonhddolaaGreatDoor.prs
open Go.RowKit nod tok
open lin(BA)
theorem Cg{w W:World}{t:Nd}{kb:Nat}{k0 k1 k2 k3 k4 k5 k6 k7:Value}{T:TypeId}(k a:Int)(nm:ByteArray)(hk:dQ k)(ha:dQ a)(hn:nm.size≤maxLen)(hv:NV w.heap.size w t (.agg #[k0,k1,k2,k3,k4,k5,k6,k7]))(hb:Below w.heap.size w W)(hkb:Bk W kb #[k0,k1,k2,k3,k4,k5,k6,k7] T):
  NV W.heap.size W (.mk k 0 a 0 false nm [] [t]) (.agg #[.int .i64 k,.int .i64 0,.int .i64 a,.int .i64 0,.bool false,.string nm,.slice none 0 0,.slice (some ⟨kb,0,none⟩) 1 1]):=by
 refine NV.shut (s:=[]) (ks:=[t]) ⟨hk,ai 0 (by decide),ha,ai 0 (by decide)⟩ hn ⟨.inl rfl,fun x e=>(by cases e),by simp,by simp,fun _=>rfl⟩ ⟨by simp,by unfold maxLen;simp,fun e=>(by cases e)⟩ (.inr ⟨kb,0,rfl,hkb.lt,fun i t' hi=>?_⟩)
 match i,hi with
 |0,hi=>
  simp at hi;subst hi
  exact⟨_,Ik hkb,(hv.keep hb).wide hb.size⟩
 |k+1,hi=>simp at hi
theorem DZ{w:World}{t:Nd}{k0 k1 k2 k3 k4 k5 k6 k7:Value}(hv:NV w.heap.size w t (.agg #[k0,k1,k2,k3,k4,k5,k6,k7])):
  Calls Tryz.prog 12 #[.agg #[k0,k1,k2,k3,k4,k5,k6,k7]] w fun e w'=>∃v,e=.returned v∧NV w'.heap.size w' (eB [t]) v∧Below w.heap.size w w':=by
 obtain⟨k,m,a,b,g,n,st,ks,sa,sc,ao,cap,rfl,e,_⟩:=hv.open
 injection e with e
 simp only[Array.mk.injEq,List.cons.injEq,and_true]at e
 obtain⟨rfl,rfl,rfl,rfl,rfl,rfl,rfl,rfl⟩:=e
 generalize st.length=sl at*
 generalize ks.length=nk at*
 generalize Nd.mk k m a b g n st ks=t at*
 have HV:Hid (NV w.heap.size w t _):=hv
 clear hv
 go_enter Tryz.func12,Tryz.ntmps12
 go_wp2
 have B3:Below w.heap.size w (((w.alloc (.cells #[.int .i64 k,.int .i64 m,.int .i64 a,.int .i64 b,.bool g,.string n,.slice sa sl sc,.slice ao nk cap] 26)).alloc (.cells #[.int .i64 6,.int .i64 0,.int .i64 0,.int .i64 0,.bool false,.string ⟨#[]⟩,.slice none 0 0,.slice (some ⟨w.heap.size+1+1,0,none⟩) 1 1] 26)).alloc (.cells #[.int .i64 k,.int .i64 m,.int .i64 a,.int .i64 b,.bool g,.string n,.slice sa sl sc,.slice ao nk cap] 26)):=(((Below.refl _ w).alloc (Nat.le_refl _) _).alloc (by simp) _).alloc (by simp;omega) _
 have G1:Bk (((w.alloc (.cells #[.int .i64 k,.int .i64 m,.int .i64 a,.int .i64 b,.bool g,.string n,.slice sa sl sc,.slice ao nk cap] 26)).alloc (.cells #[.int .i64 6,.int .i64 0,.int .i64 0,.int .i64 0,.bool false,.string ⟨#[]⟩,.slice none 0 0,.slice (some ⟨w.heap.size+1+1,0,none⟩) 1 1] 26)).alloc (.cells #[.int .i64 k,.int .i64 m,.int .i64 a,.int .i64 b,.bool g,.string n,.slice sa sl sc,.slice ao nk cap] 26)) (w.heap.size+1) #[.int .i64 6,.int .i64 0,.int .i64 0,.int .i64 0,.bool false,.string ⟨#[]⟩,.slice none 0 0,.slice (some ⟨w.heap.size+1+1,0,none⟩) 1 1] 26:=by
  have:=(Bk.new (w.alloc (.cells #[.int .i64 k,.int .i64 m,.int .i64 a,.int .i64 b,.bool g,.string n,.slice sa sl sc,.slice ao nk cap] 26)) #[.int .i64 6,.int .i64 0,.int .i64 0,.int .i64 0,.bool false,.string ⟨#[]⟩,.slice none 0 0,.slice (some ⟨w.heap.size+1+1,0,none⟩) 1 1] 26).past (.cells #[.int .i64 k,.int .i64 m,.int .i64 a,.int .i64 b,.bool g,.string n,.slice sa sl sc,.slice ao nk cap] 26)
  simpa using this
 have G2:Bk (((w.alloc (.cells #[.int .i64 k,.int .i64 m,.int .i64 a,.int .i64 b,.bool g,.string n,.slice sa sl sc,.slice ao nk cap] 26)).alloc (.cells #[.int .i64 6,.int .i64 0,.int .i64 0,.int .i64 0,.bool false,.string ⟨#[]⟩,.slice none 0 0,.slice (some ⟨w.heap.size+1+1,0,none⟩) 1 1] 26)).alloc (.cells #[.int .i64 k,.int .i64 m,.int .i64 a,.int .i64 b,.bool g,.string n,.slice sa sl sc,.slice ao nk cap] 26)) (w.heap.size+1+1) #[.int .i64 k,.int .i64 m,.int .i64 a,.int .i64 b,.bool g,.string n,.slice sa sl sc,.slice ao nk cap] 26:=by
  have:=Bk.new ((w.alloc (.cells #[.int .i64 k,.int .i64 m,.int .i64 a,.int .i64 b,.bool g,.string n,.slice sa sl sc,.slice ao nk cap] 26)).alloc (.cells #[.int .i64 6,.int .i64 0,.int .i64 0,.int .i64 0,.bool false,.string ⟨#[]⟩,.slice none 0 0,.slice (some ⟨w.heap.size+1+1,0,none⟩) 1 1] 26)) #[.int .i64 k,.int .i64 m,.int .i64 a,.int .i64 b,.bool g,.string n,.slice sa sl sc,.slice ao nk cap] 26
  simpa using this
 exact bodyPost_ret (results_cell_row Tryz.results12 _ _ (w.heap.size+1) _ _ _ _ rfl G1 Tryz.underlying26 rfl KA) rfl ⟨_,rfl,Cg 6 0 ⟨#[]⟩ (ai 6 (by decide)) (ai 0 (by decide)) (by decide) HV.out B3 G2,B3⟩
end Go.Proofs.YtgbkolonhddolaaGreatDoor.prs
