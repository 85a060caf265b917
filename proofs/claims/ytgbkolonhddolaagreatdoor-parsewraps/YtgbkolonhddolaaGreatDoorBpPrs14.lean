import Derived.Test.YtgbkolonhddolaaGreatDoorBpPrs13
import Derived.Test.YtgbkolonhddolaaGreatDoorBpTok7
import Derived.Test.YtgbkolonhddolaaGreatDoorBpTre1
import Derived.Test.YtgbkolonhddolaaGreatDoorBpTre13
import Derived.Test.YtgbkolonhddolaaGreatDoorBpTok6
set_option linter.unusedSimpArgs false
set_option linter.unusedVariables false
namespace Go.Proofs.YtgbkolonhddolaaGreatDoor.prs
open nod tok
open tre(grpN grpL bO eH gN)
theorem rR:∀(ts us:List Tk)(s:PS),runS s (ts++us)=(match runS s ts with|.ok s'=>runS s' us|.error e=>.error e)
 |[],us,s=>rfl
 |t::ts,us,s=>by
  rw[List.cons_append,runS]
  conv=>rhs;rw[runS]
  cases stepS s t with
  |ok s'=>exact rR ts us s'
  |error e=>rfl
/--Two patterns, the second with no groups, with a bar between them: one body, the first one's vo ahead of the second one's. -/
theorem Kr{ts us:List Tk}{sa sf:PS}{ba bf:Bd}(h:runS s0 ts=.ok sa)(Cy:sa.bs=[ba])(GY:sa.cs=[])(h2:runS s0 us=.ok sf)(hbf:sf.bs=[bf])(hn:sf.nm=[])(hf:∀t∈us,mX t){c:Tk}(hc:c.kind=5):
  runS s0 (ts++c::us)=.ok (deep ba.iJ (ba.dH++[eB ba.pts]) [] sa.nm [] bf sf):=by
 rw[rR,h]
 dsimp only
 have hs:stepS sa c=.ok (deep ba.iJ (ba.dH++[eB ba.pts]) [] sa.nm [] b0 s0):=by
  have hi:Inv sa:=qR h (by unfold Inv;exact⟨fun _=>rfl,fun _=>rfl⟩)
  obtain⟨nx,bs,cs,ns⟩:=sa
  obtain rfl:cs=[]:=GY
  obtain rfl:nx=0:=hi.2 rfl
  obtain rfl:bs=[ba]:=Cy
  show outS _ c=_
  unfold outS
  rw[if_neg (by omega),if_neg (by omega),if_pos hc]
  simp[deep,upd,kW,b0,s0]
 rw[runS,hs]
 dsimp only
 obtain⟨mP,b2,hb2,h3⟩:=rQ (a:=ba.iJ) (pre:=ba.dH++[eB ba.pts]) (und:=[]) (ns:=sa.nm) h2 (gF:=[]) (b:=b0) rfl hn hf
 rw[hbf]at hb2
 obtain⟨rfl,rfl⟩:mP=[]∧b2=bf:=by
  cases mP with
  |nil=>simpa[eq_comm]using hb2
  |cons x r=>simp at hb2
 rcases h3 with h3|⟨_,h3⟩
 ·exact h3
 ·exact absurd rfl h3
theorem vO{l:List Nd}{x:Nd}(h:l.getLast?=some x):grpL l=grpL l.dropLast+grpN x:=by
 have:l=l.dropLast++[x]:=by
  rw[List.getLast?_eq_some_iff]at h
  obtain⟨ys,rfl⟩:=h
  simp
 rw[this,bO]
 simp
theorem vX{s s1:PS}{t:Tk}(h:aD s t=.ok s1)(hc:Cnt s):Cnt s1:=by
 unfold aD at h
 split at h
 ·cases h
 ·cases h
  refine⟨hc.dS,hc.iJ,?_⟩
  intro c hm
  rcases List.mem_cons.1 hm with rfl|hm
  ·exact⟨rfl,rfl⟩
  ·exact hc.cls c hm
theorem EF{s s1:PS}{t:Tk}(h:memS s t=.ok s1)(hc:Cnt s):Cnt s1:=by
 obtain⟨nx,bs,cs,nm⟩:=s
 unfold memS at h
 cases cs with
 |nil=>cases h
 |cons c r=>
  dsimp only at h
  split at h
  ·cases h
   refine⟨hc.dS,hc.iJ,?_⟩
   intro d hm
   rcases List.mem_cons.1 hm with rfl|hm
   ·have:=hc.cls c (by simp)
    exact⟨this.1,by rw[bO,zT,this.2];rfl⟩
   ·exact hc.cls d (by simp[hm])
  ·split at h
   ·exact vX h hc
   ·cases h
theorem yP{s s1:PS}{t:Tk}(h:stepS s t=.ok s1)(hc:Cnt s)(hne:s.bs≠[])(hi:Inv s)(ht:mX t):Cnt s1∧s1.bs≠[]:=by
 obtain⟨nx,bs,cs,nm⟩:=s
 have upn:∀{f:Bd→Bd},upd f bs≠[]:=by
  intro f
  cases bs with
  |nil=>exact absurd rfl hne
  |cons b r=>simp[upd]
 rcases nx with _|_|_|nx
 ·replace h:outS ⟨0,bs,cs,nm⟩ t=.ok s1:=h
  unfold outS at h
  split at h
  ·rename_i k3
   unfold dN at h
   split at h
   ·cases h
   split at h
   ·cases h
   split at h
   ·cases h
   cases h
   refine⟨⟨?_,?_,hc.cls⟩,by simp⟩
   ·have hg:=hc.dS
    dsimp only at hg⊢
    obtain⟨_,h0,h7⟩:=ht k3
    cases hq:numbered t with
    |true=>
     have hm:t.mode=0∨t.mode=2:=by simpa[numbered]using hq
     have hb:∀k:Nat,0<k→grpN (kJ t k)=1:=by
      intro k hk
      unfold kJ
      rcases hm with h|h<;>simp[h,nd,grpN,grpL,hk]
     simp only[if_true,gB,List.length_append,List.length_singleton]
     rw[hb _ (by omega)]
     simp only[grpL]
     omega
    |false=>
     have hm:t.mode=1∨t.mode=3∨t.mode=4∨t.mode=5∨t.mode=6∨t.mode=7:=by
      simp[numbered]at hq
      omega
     have hb:∀k:Nat,grpN (kJ t k)=0:=by
      intro k
      unfold kJ
      rcases hm with h|h|h|h|h|h<;>simp[h,nd,grpN,grpL]
     simp only[Bool.false_eq_true,if_false,gB]
     rw[hb]
     simp only[grpL]
     omega
   ·intro b hb
    rcases List.mem_cons.1 hb with rfl|hb
    ·exact kids_br _ _
    ·exact hc.iJ b hb
  split at h
  ·unfold closeS at h
   dsimp only at h
   split at h
   ·rename_i _ b c r
    cases h
    have hg:=hc.dS
    dsimp only at hg
    refine⟨⟨?_,?_,hc.cls⟩,by simp⟩
    ·dsimp only
     simp only[gB,eQ,bO]at hg⊢
     rw[grp_kid (hc.iJ b (by simp)),zS]
     omega
    ·intro x hx
     rcases List.mem_cons.1 hx with rfl|hx
     ·exact hc.iJ c (by simp)
     ·exact hc.iJ x (by simp[hx])
   ·cases h
  split at h
  ·cases h
   refine⟨⟨?_,qY (f:=kW) (fun _=>rfl) hc.iJ,hc.cls⟩,upn⟩
   have hg:=hc.dS
   cases bs with
   |nil=>exact absurd rfl hne
   |cons b r=>
    dsimp only[upd,kW]at hg⊢
    simp only[gB,bO,grpL]at hg⊢
    rw[eB,jo (by decide)]
    omega
  split at h
  ·cases bs with
   |nil=>exact absurd rfl hne
   |cons b r=>
    dsimp only at h
    split at h
    ·rename_i c hr
     cases h
     unfold repB at hr
     split at hr
     ·cases hr
     ·rename_i l hl
      split at hr
      ·cases hr
      ·cases hr
       refine⟨⟨?_,?_,hc.cls⟩,by simp⟩
       ·have hg:=hc.dS
        dsimp only at hg⊢
        simp only[gB,bO]at hg⊢
        rw[jo (by decide)]
        rw[vO hl]at hg
        simp only[grpL]
        omega
       ·intro x hx
        rcases List.mem_cons.1 hx with rfl|hx
        ·exact hc.iJ b (by simp)
        ·exact hc.iJ x (by simp[hx])
    ·cases h
  split at h
  ·unfold dP at h
   split at h
   ·cases h
   ·cases h
    refine⟨⟨?_,qY (f:=eQ _) (fun _=>rfl) hc.iJ,hc.cls⟩,upn⟩
    have hg:=hc.dS
    dsimp only at hg⊢
    rw[Da hne,jo (by decide),hg]
    simp[grpL]
  split at h
  ·exact⟨vX h hc,by unfold aD at h;split at h<;>cases h;exact hne⟩
  cases h
  refine⟨⟨?_,qY (f:=eQ _) (fun _=>rfl) hc.iJ,hc.cls⟩,upn⟩
  have hg:=hc.dS
  dsimp only at hg⊢
  rw[Da hne,zT,hg]
  simp
 ·replace h:memS ⟨1,bs,cs,nm⟩ t=.ok s1:=h
  refine⟨EF h hc,?_⟩
  unfold memS aD at h
  repeat'(split at h)
  all_goals first|(cases h;exact hne)|cases h
 ·replace h:dZ ⟨2,bs,cs,nm⟩ t=.ok s1:=h
  unfold dZ at h
  split at h
  ·unfold endS at h
   match cs with
   |[]=>cases h
   |[c]=>
    cases h
    refine⟨⟨?_,qY (f:=eQ _) (fun _=>rfl) hc.iJ,fun c hm=>by cases hm⟩,upn⟩
    have hg:=hc.dS
    dsimp only at hg⊢
    rw[Da hne,(xA (hc.cls c (by simp))).1,hg]
    simp
   |c::d::r=>
    cases h
    refine⟨⟨hc.dS,hc.iJ,?_⟩,hne⟩
    intro x hx
    rcases List.mem_cons.1 hx with rfl|hx
    ·have:=hc.cls d (by simp)
     exact⟨this.1,by rw[bO,this.2,(xA (hc.cls c (by simp))).1];rfl⟩
    ·exact hc.cls x (by simp[hx])
  split at h
  ·cases cs with
   |nil=>cases h
   |cons c r=>
    cases h
    refine⟨⟨hc.dS,hc.iJ,?_⟩,hne⟩
    intro x hx
    rcases List.mem_cons.1 hx with rfl|hx
    ·exact⟨(xA (hc.cls c (by simp))).2,rfl⟩
    ·exact hc.cls x (by simp[hx])
  split at h
  ·cases cs with
   |nil=>cases h
   |cons c r=>
    dsimp only at h
    split at h
    ·cases h
     exact⟨⟨hc.dS,hc.iJ,hc.cls⟩,hne⟩
    ·cases h
  ·refine⟨EF h hc,?_⟩
   unfold memS aD at h
   repeat'(split at h)
   all_goals first|(cases h;exact hne)|cases h
 ·replace h:gD ⟨nx+1+1+1,bs,cs,nm⟩ t=.ok s1:=h
  unfold gD at h
  cases cs with
  |nil=>cases h
  |cons c r=>
   dsimp only at h
   split at h
   ·cases h
   ·rename_i l hl
    split at h
    ·cases h
    split at h
    ·cases h
    cases h
    refine⟨⟨hc.dS,hc.iJ,?_⟩,hne⟩
    intro x hx
    rcases List.mem_cons.1 hx with rfl|hx
    ·have:=hc.cls c (by simp)
     have h2:=this.2
     rw[vO hl]at h2
     have h3:=(eH c.mem.dropLast).1
     have h4:=(gN _ l (Nat.le_refl _)).1
     exact⟨this.1,by dsimp only;rw[bO,jo (by decide)];simp only[grpL];omega⟩
    ·exact hc.cls x (by simp[hx])
theorem Eb:∀{ts:List Tk}{s sf:PS},runS s ts=.ok sf→Cnt s→s.bs≠[]→Inv s→(∀t∈ts,mX t)→Cnt sf
 |[],s,sf,h,hc,_,_,_=>by cases h;exact hc
 |t::ts,s,sf,h,hc,hne,hi,hf=>by
  rw[runS]at h
  split at h
  ·rename_i s1 hs
   have:=yP hs hc hne hi (hf t (by simp))
   exact Eb h this.1 this.2 (lu hs hi) (fun x hx=>hf x (by simp[hx]))
  ·cases h
/--A pattern whose tree has no groups with a number has no names. -/
theorem rZ{ts:List Tk}{sf:PS}{b:Bd}(h:runS s0 ts=.ok sf)(hb:sf.bs=[b])(hf:∀t∈ts,mX t)(hz:b.iJ=zN)(hg:grpN b.node=0):sf.nm=[]:=by
 have hc:=Eb h ⟨rfl,by intro x hx;simp[s0]at hx;subst hx;rfl,fun c hm=>by cases hm⟩ (by simp[s0]) (by unfold Inv;exact⟨fun _=>rfl,fun _=>rfl⟩) hf
 have:=hc.dS
 rw[hb]at this
 simp only[gB]at this
 rw[zS]at hg
 rw[hz]at this
 have hz0:grpN zN=0:=rfl
 have:sf.nm.length=0:=by omega
 exact List.length_eq_zero_iff.1 this
end Go.Proofs.YtgbkolonhddolaaGreatDoor.prs
namespace Go.Proofs.YtgbkolonhddolaaGreatDoor.prs
open nod tok
theorem eU{k:Nat}{t:Tk}(h:t.kind≠11∧t.kind≠12):pU k t=k:=by unfold pU;rw[if_neg h.1,if_neg h.2]
theorem wm{s s1:PS}{t:Tk}(h:aD s t=.ok s1)(hk:t.kind=11):s1.cs.length=pU s.cs.length t:=by
 unfold aD at h
 split at h
 ·cases h
 ·cases h;unfold pU;rw[if_pos hk];rfl
theorem Eo{s s1:PS}{t:Tk}(h:memS s t=.ok s1):s1.cs.length=pU s.cs.length t:=by
 obtain⟨nx,bs,cs,nm⟩:=s
 unfold memS at h
 cases cs with
 |nil=>cases h
 |cons c r=>
  dsimp only at h
  split at h
  ·rename_i hk
   cases h
   rw[eU (by omega)]
   rfl
  ·split at h
   ·rename_i hk
    exact wm h hk
   ·cases h
theorem Jh{s s1:PS}{t:Tk}(h:stepS s t=.ok s1)(hi:Inv s):s1.cs.length=pU s.cs.length t:=by
 obtain⟨nx,bs,cs,nm⟩:=s
 rcases nx with _|_|_|nx
 ·obtain rfl:cs=[]:=hi.1 rfl
  replace h:outS ⟨0,bs,[],nm⟩ t=.ok s1:=h
  unfold outS at h
  by_cases k3:t.kind=3
  ·rw[if_pos k3]at h
   rw[eU (by omega)]
   unfold dN at h
   repeat'(split at h)
   all_goals first|(cases h;rfl)|cases h
  rw[if_neg k3]at h
  by_cases k4:t.kind=4
  ·rw[if_pos k4]at h
   rw[eU (by omega)]
   unfold closeS at h
   repeat'(split at h)
   all_goals first|(cases h;rfl)|cases h
  rw[if_neg k4]at h
  by_cases k5:t.kind=5
  ·rw[if_pos k5]at h
   rw[eU (by omega)]
   cases h;rfl
  rw[if_neg k5]at h
  by_cases k6:t.kind=6
  ·rw[if_pos k6]at h
   rw[eU (by omega)]
   repeat'(split at h)
   all_goals first|(cases h;rfl)|cases h
  rw[if_neg k6]at h
  by_cases k9:t.kind=9
  ·rw[if_pos k9]at h
   rw[eU (by omega)]
   unfold dP at h
   repeat'(split at h)
   all_goals first|(cases h;rfl)|cases h
  rw[if_neg k9]at h
  by_cases k11:t.kind=11
  ·rw[if_pos k11]at h
   exact wm h k11
  rw[if_neg k11]at h
  cases h
  unfold pU
  rw[if_neg k11]
  split<;>rfl
 ·exact Eo (s:=⟨1,bs,cs,nm⟩) h
 ·replace h:dZ ⟨2,bs,cs,nm⟩ t=.ok s1:=h
  unfold dZ at h
  split at h
  ·rename_i hk
   have e:pU cs.length t=cs.length-1:=by unfold pU;rw[if_neg (by omega),if_pos hk]
   show _=pU cs.length t
   rw[e]
   unfold endS at h
   match cs with
   |[]=>cases h
   |[c]=>cases h;rfl
   |c::d::r=>cases h;rfl
  rename_i k12
  split at h
  ·rename_i hk
   rw[eU (by omega)]
   cases cs with
   |nil=>cases h
   |cons c r=>cases h;rfl
  split at h
  ·rename_i hk
   rw[eU (by omega)]
   cases cs with
   |nil=>cases h
   |cons c r=>
    dsimp only at h
    split at h
    ·cases h;rfl
    ·cases h
  ·exact Eo h
 ·replace h:gD ⟨nx+1+1+1,bs,cs,nm⟩ t=.ok s1:=h
  unfold gD at h
  cases cs with
  |nil=>cases h
  |cons c r=>
   dsimp only at h
   split at h
   ·cases h
   ·split at h
    ·cases h
    ·rename_i hk
     rw[eU (by omega)]
     split at h
     ·cases h
     ·cases h;rfl
/--The zf open classes are those that the tokens' kinds tell. -/
theorem Ea:∀{ts:List Tk}{s sf:PS},runS s ts=.ok sf→Inv s→sf.cs.length=lev s.cs.length ts
 |[],s,sf,h,hi=>by cases h;rfl
 |t::ts,s,sf,h,hi=>by
  rw[runS]at h
  split at h
  ·rename_i s1 hs
   rw[lev,←Jh hs hi]
   exact Ea h (lu hs hi)
  ·cases h
/--The machine looks at no place. -/
theorem wM(d:Nat)(s:PS)(t:Tk):stepS s (sh d t)=stepS s t:=rfl
theorem wQ(d:Nat):∀(ts:List Tk)(s sf:PS),runS s ts=.ok sf→runS s (ts.map (sh d))=.ok sf
 |[],s,sf,h=>h
 |t::ts,s,sf,h=>by
  rw[List.map_cons,runS,wM]
  rw[runS]at h
  cases hs:stepS s t with
  |error e=>rw[hs]at h;cases h
  |ok s1=>rw[hs]at h;exact wQ d ts s1 sf h
end Go.Proofs.YtgbkolonhddolaaGreatDoor.prs
namespace Go.Proofs.YtgbkolonhddolaaGreatDoor.prs
open nod tok
open tre(grpN grpL)
/--The tree of tokens that a scan of n bytes came to, with its fault; what can't be a tree is told by bN. -/
def parseP(bN:Nd→Bool)(ts:List Tk)(c:Int)(p n:Nat):Nd×Int×Nat:=match runS s0 ts with
 |.error e=>(zN,e.1,e.2)
 |.ok s=>if c≠0 then(zN,c,p)else if s.depth≠0 then(zN,130,n)else match s.bs with
  |[b]=>if bN b.node=true then(b.node,0,0)else(zN,4,n)
  |_=>(zN,1,0)
def ax(bN:Nd→Bool)(f:Nat→Int)(n:Nat):Nd×Int×Nat:=parseP bN (bD f n).1 (bD f n).2.1 (bD f n).2.2 n
theorem vv(f:Nat→Int)(n:Nat):∀m a k,∀t∈(scanR f n m a k).1,mX t
 |0,a,k,t,h=>by simp[scanR]at h
 |m+1,a,k,t,h=>by
  by_cases ha:a<n
  ·rw[jY _ _ _ _ _ ha]at h
   cases hq:token f n a k with
   |no c p=>rw[hq]at h;cases h
   |ok v b=>
    rw[hq]at h
    rcases List.mem_cons.1 h with rfl|h
    ·exact(yH f n v b hq).open_
    ·exact vv f n m b v.2 t h
  ·rw[pq _ _ _ _ _ (by omega)]at h;cases h
theorem err_ne{s:PS}{t:Tk}{e:Int}(h:stepS s t=.error e):e≠0:=by
 obtain⟨nx,bs,cs,nm⟩:=s
 unfold stepS at h
 split at h
 ·unfold outS dN closeS dP aD repB at h
  repeat'(split at h)
  all_goals first|(cases h;decide)|cases h|skip
  all_goals(rename_i he;repeat'(split at he))
  all_goals first|(cases he;decide)|(cases he;cases h;decide)|cases he
 ·unfold memS aD at h
  repeat'(split at h)
  all_goals first|(cases h;decide)|cases h
 ·unfold dZ endS memS aD at h
  repeat'(split at h)
  all_goals first|(cases h;decide)|cases h
 ·unfold gD at h
  repeat'(split at h)
  all_goals first|(cases h;decide)|cases h
theorem wR:∀{ts:List Tk}{s:PS}{e:Int×Nat},runS s ts=.error e→e.1≠0
 |[],s,e,h=>by cases h
 |t::ts,s,e,h=>by
  rw[runS]at h
  split at h
  ·exact wR h
  ·rename_i hs
   cases h
   exact err_ne hs
theorem zh{bN:Nd→Bool}{ts:List Tk}{c:Int}{p n:Nat}(h:(parseP bN ts c p n).2.1=0):
  c=0∧∃sf b,runS s0 ts=.ok sf∧sf.bs=[b]∧sf.cs=[]∧(parseP bN ts c p n).1=b.node:=by
 unfold parseP at h⊢
 cases hr:runS s0 ts with
 |error e=>rw[hr]at h;exact absurd h (wR hr)
 |ok s=>
  rw[hr]at h
  dsimp only at h⊢
  split at h
  ·rename_i hc;exact absurd h hc
  rename_i hc
  split at h
  ·cases h
  rename_i hd
  split at h
  ·rename_i b hb
   split at h
   ·rename_i hk
    refine⟨by simpa using hc,s,b,rfl,hb,?_,?_⟩
    ·have:s.depth=0:=by simpa using hd
     unfold PS.depth at this
     exact List.length_eq_zero_iff.1 (by omega)
    ·rw[if_neg hc,if_neg hd]
     first|rw[if_pos hk]|(rw[hb];dsimp only;rw[if_pos hk])
   ·cases h
  ·cases h
def bot(l:List Bd):Option Nd:=l.getLast?.map Bd.iJ
theorem jW{b:Bd}{l:List Bd}(h:l≠[]):bot (b::l)=bot l:=by
 unfold bot
 cases l with
 |nil=>exact absurd rfl h
 |cons x r=>rw[List.getLast?_cons_cons]
theorem oI{f:Bd→Bd}(hf:∀b,(f b).iJ=b.iJ)(l:List Bd):bot (upd f l)=bot l:=by
 match l with
 |[]=>rfl
 |[b]=>simp[bot,upd,hf]
 |b::c::r=>
  show bot (f b::c::r)=bot (b::c::r)
  rw[jW (b:=f b) (l:=c::r) (by simp),jW (b:=b) (l:=c::r) (by simp)]
theorem Jj{s s1:PS}{t:Tk}(h:stepS s t=.ok s1)(hne:s.bs≠[]):bot s1.bs=bot s.bs:=by
 obtain⟨nx,bs,cs,nm⟩:=s
 have key:outS ⟨nx,bs,cs,nm⟩ t=.ok s1→bot s1.bs=bot bs:=by
  intro h
  unfold outS at h
  split at h
  ·unfold dN at h
   repeat'(split at h)
   all_goals first|(cases h;exact jW hne)|cases h
  split at h
  ·unfold closeS at h
   dsimp only at h
   split at h
   ·rename_i b c r _
    cases h
    rw[jW (b:=b) (l:=c::r) (by simp)]
    exact oI (f:=eQ _) (fun _=>rfl) (c::r)
   ·cases h
  split at h
  ·cases h;exact oI (f:=kW) (fun _=>rfl) bs
  split at h
  ·cases bs with
   |nil=>exact absurd rfl hne
   |cons b r=>
    dsimp only at h
    split at h
    ·rename_i c hr
     cases h
     unfold repB at hr
     repeat'(split at hr)
     all_goals first|(cases hr;(cases r with|nil=>rfl|cons x r=>(rw[jW (b:=b) (l:=x::r) (by simp)];exact jW (by simp))))|cases hr
    ·cases h
  split at h
  ·unfold dP at h
   split at h
   ·cases h
   ·cases h;exact oI (f:=eQ _) (fun _=>rfl) bs
  split at h
  ·unfold aD at h
   split at h<;>cases h
   rfl
  cases h
  exact oI (f:=eQ _) (fun _=>rfl) bs
 unfold stepS at h
 split at h
 ·exact key h
 ·unfold memS aD at h
  repeat'(split at h)
  all_goals first|(cases h;rfl)|cases h
 ·unfold dZ endS memS aD at h
  repeat'(split at h)
  all_goals first|(cases h;rfl)|(cases h;exact oI (f:=eQ _) (fun _=>rfl) bs)|cases h
 ·unfold gD at h
  repeat'(split at h)
  all_goals first|(cases h;rfl)|cases h
end Go.Proofs.YtgbkolonhddolaaGreatDoor.prs
namespace Go.Proofs.YtgbkolonhddolaaGreatDoor.prs
open nod tok
open tre(shortN shortL cK)
def Jm(t:Tk):Prop:=t.name.length≤140737488355327
def Ir(b:Bd):Prop:=shortN b.iJ∧(∀t∈b.dH,shortN t)∧∀t∈b.pts,shortN t
def ShC(c:Cl):Prop:=shortN c.left∧∀t∈c.mem,shortN t
def Iq(s:PS):Prop:=(∀b∈s.bs,Ir b)∧∀c∈s.cs,ShC c
theorem nI:∀{ks:List Nd},(∀t∈ks,shortN t)→shortL ks
 |[],_=>by rw[shortL];trivial
 |t::ks,h=>by rw[shortL];exact⟨h t (by simp),nI fun x hx=>h x (by simp[hx])⟩
theorem rJ{k m a b:Int}{g:Bool}{n:List UInt8}{ks:List Nd}(hn:n.length≤140737488355327)(h:∀t∈ks,shortN t):shortN (nd k m a b g n ks):=by
 unfold nd
 rw[shortN]
 exact⟨by simpa[ByteArray.size]using hn,nI h⟩
theorem bJ{k m a b:Int}{g:Bool}{ks:List Nd}(h:∀t∈ks,shortN t):shortN (nd k m a b g [] ks):=rJ (by decide) h
theorem bH:∀t∈([]:List Nd),shortN t:=fun t h=>by cases h
theorem dD{x:Nd}(h:shortN x):∀t∈[x],shortN t:=fun t ht=>by rw[List.mem_singleton.1 ht];exact h
theorem gU{a b:List Nd}(h:∀t∈a,shortN t)(k:∀t∈b,shortN t):∀t∈a++b,shortN t:=fun t ht=>(List.mem_append.1 ht).elim (h t) (k t)
theorem sH{t:Tk}(h:Jm t):shortN (iE t):=by
 unfold iE
 repeat' split
 all_goals first|exact bJ bH|exact rJ h bH
theorem LD{t:Tk}(h:Jm t)(k:Nat):shortN (kJ t k):=by
 unfold kJ
 repeat' split
 all_goals first|exact bJ bH|exact rJ h bH
theorem GD{x:Nd}{ks:List Nd}(h:shortN x)(hk:∀t∈ks,shortN t):shortN (ou x ks):=by
 obtain⟨k,m,a,b,g,n,s,ks'⟩:=x
 rw[shortN]at h
 show shortN (.mk k m a b g n s ks)
 rw[shortN]
 exact⟨h.1,nI hk⟩
theorem Ir.node{b:Bd}(h:Ir b):shortN b.node:=by
 unfold Bd.node eB
 split
 ·exact bJ h.2.2
 ·exact bJ (gU h.2.1 (dD (bJ h.2.2)))
theorem ShC.node{c:Cl}(h:ShC c):shortN c.node:=by
 unfold Cl.node
 split
 ·exact bJ h.2
 ·exact bJ fun t ht=>by
   rcases List.mem_cons.1 ht with rfl|ht
   ·exact h.1
   ·exact dD (bJ h.2) t ht
theorem ShC.inner{c:Cl}(h:ShC c):shortN c.inner:=by
 unfold Cl.inner
 split
 ·exact bJ h.2
 ·exact bJ fun t ht=>by
   rcases List.mem_cons.1 ht with rfl|ht
   ·exact h.1
   ·exact dD (bJ h.2) t ht
theorem Ir.add{b:Bd}{x:Nd}(h:Ir b)(hx:shortN x):Ir (eQ x b):=⟨h.1,h.2.1,gU h.2.2 (dD hx)⟩
theorem Ir.bar{b:Bd}(h:Ir b):Ir (kW b):=⟨h.1,gU h.2.1 (dD (bJ h.2.2)),bH⟩
theorem DU:shortN zN:=bJ bH
theorem lZ{f:Bd→Bd}{l:List Bd}(h:∀b∈l,Ir b)(hf:∀b,Ir b→Ir (f b)):∀b∈upd f l,Ir b:=by
 cases l with
 |nil=>intro b hb;cases hb
 |cons a r=>
  intro b hb
  rcases List.mem_cons.1 hb with rfl|hb
  ·exact hf _ (h a (by simp))
  ·exact h b (by simp[hb])
theorem eO{α:Type}{P:α→Prop}{a:α}{l:List α}(ha:P a)(hl:∀x∈l,P x):∀x∈a::l,P x:=fun x hx=>by
 rcases List.mem_cons.1 hx with rfl|hx
 ·exact ha
 ·exact hl x hx
theorem Cq{l:List Nd}{x:Nd}(h:∀t∈l,shortN t)(e:l.getLast?=some x):shortN x:=h x (List.mem_of_getLast? e)
theorem sZ{l:List Nd}(h:∀t∈l,shortN t):∀t∈l.dropLast,shortN t:=fun t ht=>h t (List.dropLast_subset l ht)
theorem qC{s s1:PS}{t:Tk}(h:aD s t=.ok s1)(hs:Iq s):Iq s1:=by
 unfold aD at h
 split at h
 ·cases h
 ·cases h;exact⟨hs.1,eO ⟨DU,bH⟩ hs.2⟩
theorem vH{s s1:PS}{t:Tk}(h:memS s t=.ok s1)(hs:Iq s)(ht:Jm t):Iq s1:=by
 obtain⟨nx,bs,cs,nm⟩:=s
 unfold memS at h
 cases cs with
 |nil=>cases h
 |cons c r=>
  dsimp only at h
  have hc:=hs.2 c (by simp)
  have hr:∀x∈r,ShC x:=fun x hx=>hs.2 x (by simp[hx])
  split at h
  ·cases h;exact⟨hs.1,eO ⟨hc.1,gU hc.2 (dD (sH ht))⟩ hr⟩
  ·split at h
   ·exact qC h hs
   ·cases h
theorem Hm{s s1:PS}(h:endS s=.ok s1)(hs:Iq s):Iq s1:=by
 obtain⟨nx,bs,cs,nm⟩:=s
 unfold endS at h
 rcases cs with _|⟨c,_|⟨d,r⟩⟩
 ·cases h
 ·cases h
  exact⟨lZ hs.1 fun b hb=>hb.add (hs.2 c (by simp)).node,fun c hc=>by cases hc⟩
 ·cases h
  have hd:=hs.2 d (by simp)
  exact⟨hs.1,eO ⟨hd.1,gU hd.2 (dD (hs.2 c (by simp)).node)⟩ fun x hx=>hs.2 x (by simp[hx])⟩
theorem Gg{s s1:PS}{t:Tk}(h:outS s t=.ok s1)(hs:Iq s)(ht:Jm t):Iq s1:=by
 obtain⟨nx,bs,cs,nm⟩:=s
 unfold outS at h
 split at h
 ·unfold dN at h
  split at h
  ·cases h
  split at h
  ·cases h
  split at h
  ·cases h
  ·cases h;exact⟨eO ⟨LD ht _,bH,bH⟩ hs.1,hs.2⟩
 split at h
 ·unfold closeS at h
  rcases bs with _|⟨b,_|⟨c,r⟩⟩
  ·cases h
  ·cases h
  ·cases h
   have hb:=hs.1 b (by simp)
   have hc:=hs.1 c (by simp)
   exact⟨eO (hc.add (GD hb.1 (dD hb.node))) fun x hx=>hs.1 x (by simp[hx]),hs.2⟩
 split at h
 ·cases h;exact⟨lZ hs.1 fun b hb=>hb.bar,hs.2⟩
 split at h
 ·cases bs with
  |nil=>cases h
  |cons b r=>
   dsimp only at h
   have hb:=hs.1 b (by simp)
   unfold repB at h
   cases hl:b.pts.getLast? with
   |none=>rw[hl]at h;cases h
   |some l=>
    rw[hl]at h
    dsimp only at h
    by_cases hk:l.kind=8∨l.kind=10∨l.kind=12
    ·rw[if_pos hk]at h;cases h
    ·rw[if_neg hk]at h
     cases h
     exact⟨eO ⟨hb.1,hb.2.1,gU (sZ hb.2.2) (dD (bJ (dD (Cq hb.2.2 hl))))⟩ fun x hx=>hs.1 x (by simp[hx]),hs.2⟩
 split at h
 ·unfold dP at h
  split at h
  ·cases h
  ·cases h;exact⟨lZ hs.1 fun b hb=>hb.add (bJ bH),hs.2⟩
 split at h
 ·exact qC h hs
 ·cases h;exact⟨lZ hs.1 fun b hb=>hb.add (sH ht),hs.2⟩
theorem BC{s s1:PS}{t:Tk}(h:stepS s t=.ok s1)(hs:Iq s)(ht:Jm t):Iq s1:=by
 unfold stepS at h
 split at h
 ·exact Gg h hs ht
 ·exact vH h hs ht
 ·obtain⟨nx,bs,cs,nm⟩:=s
  unfold dZ at h
  split at h
  ·exact Hm h hs
  split at h
  ·cases cs with
   |nil=>cases h
   |cons c r=>
    cases h
    exact⟨hs.1,eO ⟨(hs.2 c (by simp)).inner,bH⟩ fun x hx=>hs.2 x (by simp[hx])⟩
  split at h
  ·cases cs with
   |nil=>cases h
   |cons c r=>
    dsimp only at h
    split at h
    ·cases h;exact hs
    ·cases h
  ·exact vH h hs ht
 ·obtain⟨nx,bs,cs,nm⟩:=s
  unfold gD at h
  cases cs with
  |nil=>cases h
  |cons c r=>
   dsimp only at h
   have hc:=hs.2 c (by simp)
   split at h
   ·cases h
   split at h
   ·cases h
   split at h
   ·cases h
   ·cases h
    exact⟨hs.1,eO ⟨hc.1,gU (sZ hc.2) (dD (bJ bH))⟩ fun x hx=>hs.2 x (by simp[hx])⟩
theorem short0:Iq s0:=⟨fun b hb=>by
 simp only[s0,List.mem_singleton]at hb
 subst hb
 exact⟨DU,bH,bH⟩,fun c hc=>by cases hc⟩
theorem vz:∀{ts:List Tk}{s sf:PS},runS s ts=.ok sf→Iq s→(∀t∈ts,Jm t)→Iq sf
 |[],s,sf,h,h1,_=>by cases h;exact h1
 |t::ts,s,sf,h,h1,h2=>by
  rw[runS]at h
  split at h
  ·rename_i s' hs
   exact vz h (BC hs h1 (h2 t (by simp))) fun x hx=>h2 x (by simp[hx])
  ·cases h
end Go.Proofs.YtgbkolonhddolaaGreatDoor.prs
namespace Go.Proofs.YtgbkolonhddolaaGreatDoor.prs
open Go.RowKit nod tok
open lin(BA)
open tre(shortN Pw og)
theorem yY{fn:Func}{p q:Tmp}(h:fn.results=#[.cell p 26,.cell q 29])(tmps:Array Value)(w:World)(g k:Nat)(cs ds:Array Value)(hc:cs.size=8)(hd:ds.size=2)
  (hp:tmps.getD p undef=.pointer (some ⟨g,0,none⟩))(hq:tmps.getD q undef=.pointer (some ⟨k,0,none⟩))(hg:Bk w g cs 26)(hk:Bk w k ds 29):
  (results fn tmps).run Tryz.prog w=.ok (.tuple #[.agg cs,.agg ds]) w:=by
 have hp':tmps[p]?.getD undef=.pointer (some ⟨g,0,none⟩):=by simpa using hp
 have hq':tmps[q]?.getD undef=.pointer (some ⟨k,0,none⟩):=by simpa using hq
 have e1:=run_loadVar_row (P:=Tryz.prog) w g 26 26 cs (0,0) _ hg Tryz.underlying26 rfl (by rw[hc];exact KA)
 have e2:=run_loadVar_row (P:=Tryz.prog) w k 29 29 ds (0,0) _ hk Tryz.underlying29 rfl (by rw[hd];exact infFt)
 simp[results,h,hp',hq',asAddr,e1,e2]
/--Both results, stored. -/
def dK(w:World)(g k:Nat)(y:Nv)(c i:Int):World:=((aC w g 0 y).setCell ⟨k,0,none⟩ (.int .i64 c)).setCell ⟨k,1,none⟩ (.int .i64 i)
theorem EB{w:World}{g k:Nat}{u0 u1 u2 u3 u4 u5 u6 u7 a b:Value}(hg:Bk w g #[u0,u1,u2,u3,u4,u5,u6,u7] 26)(hk:Bk w k #[a,b] 29)(hne:g≠k)(y:Nv)(c i:Int):
  Bk (dK w g k y c i) g #[.int .i64 y.k,.int .i64 y.m,.int .i64 y.a,.int .i64 y.b,.bool y.g,.string y.nm,.slice none 0 0,.slice y.ka y.kn y.kc] 26∧Bk (dK w g k y c i) k #[.int .i64 c,.int .i64 i] 29:=by
 have h2:Bk (aC w g 0 y) k #[a,b] 29:=((bX w g 0 y).block k hk.lt (fun e=>hne (Option.some.inj e).symm)).trans hk
 exact⟨((xP hg y).apart hne _).apart hne _,h2.set2 _ _⟩
theorem kF{w:World}{g k r:Nat}{cs:Array Value}{t:TypeId}(h:Bk w r cs t)(h1:r≠g)(h2:r≠k)(y:Nv)(c i:Int):Bk (aC w g 0 y) r cs t∧Bk (dK w g k y c i) r cs t:=by
 have h3:Bk (aC w g 0 y) r cs t:=((bX w g 0 y).block r h.lt (fun e=>h1 (Option.some.inj e))).trans h
 exact⟨h3,(h3.apart h2 _).apart h2 _⟩
theorem gP{B:Nat}{v w:World}{g k:Nat}(h:Below B v w)(h1:B≤g)(h2:B≤k)(y:Nv)(c i:Int):Below B v (dK w g k y c i):=((fI y h h1).setCell h2 _).setCell h2 _
theorem jV{fn:Func}{p q:Tmp}(h:fn.results=#[.cell p 26,.cell q 29])(tmps:Array Value){w:World}{g k:Nat}{u0 u1 u2 u3 u4 u5 u6 u7 a b:Value}
  (hg:Bk w g #[u0,u1,u2,u3,u4,u5,u6,u7] 26)(hk:Bk w k #[a,b] 29)(hne:g≠k)(y:Nv)(c i:Int)(hp:tmps.getD p undef=.pointer (some ⟨g,0,none⟩))(hq:tmps.getD q undef=.pointer (some ⟨k,0,none⟩)):
  (results fn tmps).run Tryz.prog (dK w g k y c i)=.ok (.tuple #[a8 y,.agg #[.int .i64 c,.int .i64 i]]) (dK w g k y c i):=
 yY h tmps _ g k _ _ rfl rfl hp hq (EB hg hk hne y c i).1 (EB hg hk hne y c i).2
theorem vS(w:World)(g k:Nat)(y:Nv)(c i:Int):w.heap.size≤(dK w g k y c i).heap.size:=by simp[dK,aC,World.setCell]
theorem sU{w:World}{g k j:Nat}(hj:j<w.heap.size)(h1:j≠g)(h2:j≠k)(y:Nv)(c i:Int):(dK w g k y c i).heap[j]?=w.heap[j]?:=by
 have h3:=(bX w g 0 y).block j hj (fun e=>h1 (Option.some.inj e))
 have h4:j<(aC w g 0 y).heap.size:=Nat.lt_of_lt_of_le hj (bX w g 0 y).size
 have h5:=(ay (aC w g 0 y) k 0 (.int .i64 c)).block j h4 (fun e=>h2 (Option.some.inj e))
 have h6:=(ay ((aC w g 0 y).setCell ⟨k,0,none⟩ (.int .i64 c)) k 1 (.int .i64 i)).block j (Nat.lt_of_lt_of_le h4 (ay (aC w g 0 y) k 0 (.int .i64 c)).size) (fun e=>h2 (Option.some.inj e))
 exact h6.trans (h5.trans h3)
/--What the program's Can says. -/
def bU(t:Nd):Bool:=(og t.sz t).isSome
end Go.Proofs.YtgbkolonhddolaaGreatDoor.prs
