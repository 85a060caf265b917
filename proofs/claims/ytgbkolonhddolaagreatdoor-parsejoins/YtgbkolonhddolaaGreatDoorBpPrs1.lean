import Derived.Test.YtgbkolonhddolaaGreatDoorBpNod1
import Derived.Test.YtgbkolonhddolaaGreatDoorBpTok1
import Derived.Laws.OwnMore
set_option linter.unusedSimpArgs false
set_option linter.unusedVariables false
namespace Go.Proofs.YtgbkolonhddolaaGreatDoor.prs
open nod tok
/--A body in the making: the node of its brackets, the vo ahead of the last bar, the parts at hand. -/
structure Bd where
 iJ:Nd
 dH:List Nd
 pts:List Nd
/--A class in the making. -/
structure Cl where
 neg:Bool
 mode:Int
 left:Nd
 mem:List Nd
/--What the parser holds; innermost first. 'next': 0 outside, 1 member, 2 further, 3 the end of a range. -/
structure PS where
 next:Nat
 bs:List Bd
 cs:List Cl
 nm:List (List UInt8)
def nd(k m a b:Int)(g:Bool)(n:List UInt8)(ks:List Nd):Nd:=.mk k m a b g ⟨n.toArray⟩ [] ks
def zN:Nd:=nd 0 0 0 0 false [] []
def eB(l:List Nd):Nd:=nd 6 0 0 0 false [] l
def b0:Bd:=⟨zN,[],[]⟩
def s0:PS:=⟨0,[b0],[],[]⟩
def Bd.node(b:Bd):Nd:=if b.dH.isEmpty then eB b.pts else nd 7 0 0 0 false [] (b.dH++[eB b.pts])
def Cl.inner(c:Cl):Nd:=if c.mode=0 then nd 3 0 0 0 false [] c.mem else nd 3 c.mode 0 0 false [] [c.left,nd 3 0 0 0 false [] c.mem]
def Cl.node(c:Cl):Nd:=if c.mode=0 then nd 3 0 0 0 c.neg [] c.mem else nd 3 c.mode 0 0 c.neg [] [c.left,nd 3 0 0 0 false [] c.mem]
def ou(n:Nd)(ks:List Nd):Nd:=.mk n.kind n.mode n.a n.b n.neg n.name n.set ks
def PS.depth(s:PS):Nat:=s.bs.length-1+s.cs.length
def iE(t:Tk):Nd:=
 if t.kind=2 then nd 2 0 0 0 false [] []else if t.kind=7 then nd 12 t.mode 0 0 false [] []else if t.kind=8 then nd 5 0 0 0 t.neg t.name []
 else if t.kind=10 then nd 14 0 0 0 false [] []else nd 1 0 t.a 0 false [] []
/--The innermost body, turned. -/
def upd(f:Bd→Bd):List Bd→List Bd
 |[]=>[]
 |b::r=>f b::r
def eQ(n:Nd)(b:Bd):Bd:=⟨b.iJ,b.dH,b.pts++[n]⟩
def kW(b:Bd):Bd:=⟨b.iJ,b.dH++[eB b.pts],[]⟩
def repB(t:Tk)(b:Bd):Except Int Bd:=match b.pts.getLast? with
 |none=>.error 133
 |some l=>if l.kind=8∨l.kind=10∨l.kind=12 then .error 150 else .ok ⟨b.iJ,b.dH,b.pts.dropLast++[nd 8 t.mode t.a t.b false [] [l]]⟩
def numbered(t:Tk):Bool:=t.mode==0||t.mode==2
/--The node of a bracket, its number being the names' length. -/
def kJ(t:Tk)(k:Nat):Nd:=
 if t.mode=1 then nd 9 0 0 0 false [] []else if t.mode=3 then nd 10 0 0 0 false [] []else if t.mode=4 then nd 10 1 0 0 false [] []
 else if t.mode=5 then nd 10 2 0 0 false [] []else if t.mode=6 then nd 10 3 0 0 false [] []else if t.mode=7 then nd 11 0 0 0 false [] []
 else nd 9 0 k 0 false t.name []
def dN(s:PS)(t:Tk):Except Int PS:=
 if s.depth=50 then .error 153
 else if t.name≠[]∧t.name∈s.nm then .error 151
 else if numbered t∧s.nm.length=20 then .error 4
 else let nm:=if numbered t then s.nm++[t.name]else s.nm
  .ok ⟨s.next,⟨kJ t nm.length,[],[]⟩::s.bs,s.cs,nm⟩
def closeS(s:PS):Except Int PS:=match s.bs with
 |b::c::r=>.ok ⟨s.next,eQ (ou b.iJ [b.node]) c::r,s.cs,s.nm⟩
 |_=>.error 133
def backK(s:PS)(t:Tk):Int:=if t.name≠[]then(match s.nm.findIdx? (·==t.name)with|some i=>i+1|none=>0)else t.a
def dP(s:PS)(t:Tk):Except Int PS:=
 if backK s t<1∨s.nm.length<backK s t then .error 151 else .ok ⟨s.next,upd (eQ (nd 13 0 (backK s t) 0 false [] [])) s.bs,s.cs,s.nm⟩
def aD(s:PS)(t:Tk):Except Int PS:=if s.depth=50 then .error 153 else .ok ⟨1,s.bs,⟨t.neg,0,zN,[]⟩::s.cs,s.nm⟩
def outS(s:PS)(t:Tk):Except Int PS:=
 if t.kind=3 then dN s t else if t.kind=4 then closeS s else if t.kind=5 then .ok ⟨s.next,upd kW s.bs,s.cs,s.nm⟩
 else if t.kind=6 then(match s.bs with|[]=>.error 1|b::r=>match repB t b with|.ok c=>.ok ⟨s.next,c::r,s.cs,s.nm⟩|.error e=>.error e)
 else if t.kind=9 then dP s t else if t.kind=11 then aD s t else .ok ⟨s.next,upd (eQ (iE t)) s.bs,s.cs,s.nm⟩
def memS(s:PS)(t:Tk):Except Int PS:=match s.cs with
 |[]=>.error 1
 |c::r=>if t.kind=1∨t.kind=8 then .ok ⟨2,s.bs,⟨c.neg,c.mode,c.left,c.mem++[iE t]⟩::r,s.nm⟩
  else if t.kind=11 then aD s t else .error 133
def endS(s:PS):Except Int PS:=match s.cs with
 |[]=>.error 1
 |[c]=>.ok ⟨0,upd (eQ c.node) s.bs,[],s.nm⟩
 |c::d::r=>.ok ⟨2,s.bs,⟨d.neg,d.mode,d.left,d.mem++[c.node]⟩::r,s.nm⟩
def dZ(s:PS)(t:Tk):Except Int PS:=
 if t.kind=12 then endS s
 else if t.kind=14 then(match s.cs with|[]=>.error 1|c::r=>.ok ⟨1,s.bs,⟨c.neg,t.mode,c.inner,[]⟩::r,s.nm⟩)
 else if t.kind=13 then(match s.cs with|[]=>.error 1|c::r=>if(c.mem.getLast?.map Nd.kind)=some 1 then .ok ⟨3,s.bs,c::r,s.nm⟩else .error 133)
 else memS s t
def gD(s:PS)(t:Tk):Except Int PS:=match s.cs with
 |[]=>.error 1
 |c::r=>match c.mem.getLast? with
  |none=>.error 1
  |some l=>if t.kind≠1 then .error 133 else if t.a<l.a then .error 152 else .ok ⟨2,s.bs,⟨c.neg,c.mode,c.left,c.mem.dropLast++[nd 4 0 l.a t.a false [] []]⟩::r,s.nm⟩
def stepS(s:PS)(t:Tk):Except Int PS:=match s.next with
 |0=>outS s t
 |1=>memS s t
 |2=>dZ s t
 |_=>gD s t
/--All tokens, up to the first that can't stand there. -/
def runS:PS→List Tk→Except (Int×Nat) PS
 |s,[]=>.ok s
 |s,t::ts=>match stepS s t with
  |.ok s'=>runS s' ts
  |.error e=>.error (e,t.s)
/--The machine's state, deeper in: below the undermost body lie others, ahead of it stand vo, names have begun. -/
def deep(a:Nd)(pre:List Nd)(und:List Bd)(ns:List (List UInt8))(gF:List Bd)(b:Bd)(s:PS):PS:=⟨s.next,gF++⟨a,pre++b.dH,b.pts⟩::und,s.cs,ns⟩
/--What the qQ says of its opening tokens. -/
def mX(t:Tk):Prop:=t.kind=3→(t.name≠[]→t.mode=2)∧0≤t.mode∧t.mode≤7
theorem qP{s s1:PS}{t:Tk}(h:stepS s t=.ok s1)(h1:s1.nm=[]):s.nm=[]:=by
 obtain⟨nx,bs,cs,nm⟩:=s
 have key:∀{s:PS},outS s t=.ok s1→s.nm=[]:=by
  rintro⟨nx,bs,cs,nm⟩h
  unfold outS dN closeS dP aD at h
  repeat'(split at h)
  all_goals first|(cases h;first|exact h1|(simp at h1))|cases h
 have keyM:∀{s:PS},memS s t=.ok s1→s.nm=[]:=by
  rintro⟨nx,bs,cs,nm⟩h
  unfold memS aD at h
  repeat'(split at h)
  all_goals first|(cases h;exact h1)|cases h
 unfold stepS at h
 split at h
 ·exact key h
 ·exact keyM h
 ·unfold dZ endS at h
  repeat'(split at h)
  all_goals first|exact keyM h|(cases h;exact h1)|cases h
 ·unfold gD at h
  repeat'(split at h)
  all_goals first|(cases h;exact h1)|cases h
theorem BJ:∀{ts:List Tk}{s sf:PS},runS s ts=.ok sf→sf.nm=[]→s.nm=[]
 |[],s,sf,h,h1=>by cases h;exact h1
 |t::ts,s,sf,h,h1=>by
  rw[runS]at h
  split at h
  ·rename_i s' hs
   exact qP hs (BJ h h1)
  ·cases h
/--Outside of classes none is open, and only there. -/
def Inv(s:PS):Prop:=(s.next=0↔s.cs=[])
theorem lu{s s1:PS}{t:Tk}(h:stepS s t=.ok s1)(hi:Inv s):Inv s1:=by
 obtain⟨nx,bs,cs,nm⟩:=s
 unfold Inv at*
 unfold stepS at h
 split at h
 ·unfold outS dN closeS dP aD at h
  repeat'(split at h)
  all_goals first|(cases h;first|exact hi|simp)|cases h
 ·unfold memS aD at h
  repeat'(split at h)
  all_goals first|(cases h;simp)|cases h
 ·unfold dZ endS memS aD at h
  repeat'(split at h)
  all_goals first|(cases h;simp)|cases h
 ·unfold gD at h
  repeat'(split at h)
  all_goals first|(cases h;simp)|cases h
theorem qR:∀{ts:List Tk}{s sf:PS},runS s ts=.ok sf→Inv s→Inv sf
 |[],s,sf,h,h1=>by cases h;exact h1
 |t::ts,s,sf,h,h1=>by
  rw[runS]at h
  split at h
  ·rename_i s' hs
   exact qR h (lu hs h1)
  ·cases h
/--With no names a step does deeper in what it does above; or it is too deep there. -/
theorem o6{a:Nd}{pre:List Nd}{und:List Bd}{ns:List (List UInt8)}{gF:List Bd}{b:Bd}{s s1:PS}{t:Tk}(hs:stepS s t=.ok s1)(hb:s.bs=gF++[b])(hn:s.nm=[])(hn1:s1.nm=[])(ht:mX t):
  ∃mP b1,s1.bs=mP++[b1]∧(stepS (deep a pre und ns gF b s) t=.ok (deep a pre und ns mP b1 s1)∨(stepS (deep a pre und ns gF b s) t=.error 153∧und≠[])):=by
 obtain⟨nx,bs,cs,nm⟩:=s
 obtain rfl:bs=gF++[b]:=hb
 obtain rfl:nm=[]:=hn
 have dp:∀{c:List Cl},(⟨nx,gF++[b],c,[]⟩:PS).depth≠50→(deep a pre und ns gF b ⟨nx,gF++[b],c,[]⟩).depth=50→und≠[]:=by
  rintro c h1 h2 rfl
  apply h1
  simpa[PS.depth,deep]using h2
 have cl:∀{s1:PS},aD ⟨nx,gF++[b],cs,[]⟩ t=.ok s1→s1.bs=gF++[b]∧(aD (deep a pre und ns gF b ⟨nx,gF++[b],cs,[]⟩) t=.ok (deep a pre und ns gF b s1)∨(aD (deep a pre und ns gF b ⟨nx,gF++[b],cs,[]⟩) t=.error 153∧und≠[])):=by
  intro s1 h
  unfold aD at h⊢
  split at h
  ·cases h
  ·rename_i hd
   cases h
   refine⟨rfl,?_⟩
   split
   ·rename_i hd'
    exact .inr ⟨rfl,dp hd hd'⟩
   ·exact .inl rfl
 have me:∀{s1:PS},memS ⟨nx,gF++[b],cs,[]⟩ t=.ok s1→s1.bs=gF++[b]∧(memS (deep a pre und ns gF b ⟨nx,gF++[b],cs,[]⟩) t=.ok (deep a pre und ns gF b s1)∨(memS (deep a pre und ns gF b ⟨nx,gF++[b],cs,[]⟩) t=.error 153∧und≠[])):=by
  intro s1 h
  unfold memS at h⊢
  simp only[deep]at h⊢
  cases cs with
  |nil=>cases h
  |cons c r=>
   dsimp only at h⊢
   split at h
   ·cases h
    rename_i hk
    exact⟨rfl,.inl (by rw[if_pos hk])⟩
   ·rename_i hk
    split at h
    ·rename_i hk'
     rw[if_neg hk,if_pos hk']
     exact cl h
    ·cases h
 rcases nx with _|_|_|nx
 ·replace hs:outS ⟨0,gF++[b],cs,[]⟩ t=.ok s1:=hs
  show∃mP b1,_∧(outS _ t=_∨outS _ t=_∧_)
  unfold outS at hs⊢
  by_cases k3:t.kind=3
  ·rw[if_pos k3]at hs⊢
   unfold dN at hs⊢
   split at hs
   ·cases hs
   rename_i hd
   split at hs
   ·cases hs
   split at hs
   ·cases hs
   cases hs
   have hnum:numbered t=false:=by
    cases hq:numbered t with
    |false=>rfl
    |true=>rw[hq]at hn1;simp at hn1
   obtain⟨hm2,hm0,hm7⟩:=ht k3
   have hname:t.name=[]:=by
    apply Classical.byContradiction
    intro hne
    have:=hm2 hne
    simp[numbered,this]at hnum
   refine⟨⟨kJ t 0,[],[]⟩::gF,b,by simp[hnum],?_⟩
   split
   ·rename_i hd'
    exact .inr ⟨rfl,dp hd hd'⟩
   ·left
    have hbr:kJ t ns.length=kJ t 0:=by
     unfold kJ
     simp[numbered]at hnum
     have:t.mode=1∨t.mode=3∨t.mode=4∨t.mode=5∨t.mode=6∨t.mode=7:=by omega
     rcases this with h|h|h|h|h|h<;>simp[h]
    simp[hname,hnum,deep,hbr]
  rw[if_neg k3]at hs⊢
  by_cases k4:t.kind=4
  ·rw[if_pos k4]at hs⊢
   unfold closeS at hs⊢
   cases gF with
   |nil=>cases hs
   |cons x r=>
    cases r with
    |nil=>cases hs;exact⟨[],_,rfl,.inl rfl⟩
    |cons y r=>cases hs;exact⟨eQ (ou x.iJ [x.node]) y::r,b,rfl,.inl rfl⟩
  rw[if_neg k4]at hs⊢
  by_cases k5:t.kind=5
  ·rw[if_pos k5]at hs⊢
   cases hs
   cases gF with
   |nil=>exact⟨[],kW b,rfl,.inl (by simp[deep,upd,kW])⟩
   |cons x r=>exact⟨kW x::r,b,rfl,.inl rfl⟩
  rw[if_neg k5]at hs⊢
  by_cases k6:t.kind=6
  ·rw[if_pos k6]at hs⊢
   cases gF with
   |nil=>
    simp only[List.nil_append,deep]at hs⊢
    unfold repB at hs⊢
    dsimp only at hs⊢
    cases hl:b.pts.getLast? with
    |none=>rw[hl]at hs;cases hs
    |some l=>
     rw[hl]at hs
     dsimp only at hs⊢
     split at hs
     ·rename_i c hc
      split at hc
      ·cases hc
      ·rename_i hk
       cases hc
       cases hs
       exact⟨[],_,rfl,.inl (by rw[if_neg hk];rfl)⟩
     ·cases hs
   |cons x r=>
    simp only[List.cons_append,deep]at hs⊢
    split at hs
    ·rename_i c hc
     cases hs
     exact⟨c::r,b,rfl,.inl (by first|rfl|(rw[hc];rfl))⟩
    ·cases hs
  rw[if_neg k6]at hs⊢
  by_cases k9:t.kind=9
  ·rw[if_pos k9]at hs
   exfalso
   unfold dP at hs
   rw[if_pos]at hs
   ·cases hs
   ·show backK _ t<1∨((0:Nat):Int)<backK _ t
    generalize backK _ t=q
    omega
  rw[if_neg k9]at hs⊢
  by_cases k11:t.kind=11
  ·rw[if_pos k11]at hs⊢
   obtain⟨h1,h2⟩:=cl hs
   exact⟨gF,b,h1,h2⟩
  rw[if_neg k11]at hs⊢
  cases hs
  cases gF with
  |nil=>exact⟨[],eQ (iE t) b,rfl,.inl rfl⟩
  |cons x r=>exact⟨eQ (iE t) x::r,b,rfl,.inl rfl⟩
 ·obtain⟨h1,h2⟩:=me hs
  exact⟨gF,b,h1,h2⟩
 ·replace hs:dZ ⟨2,gF++[b],cs,[]⟩ t=.ok s1:=hs
  show∃mP b1,_∧(dZ _ t=_∨dZ _ t=_∧_)
  unfold dZ at hs⊢
  by_cases k12:t.kind=12
  ·rw[if_pos k12]at hs⊢
   unfold endS at hs⊢
   match cs with
   |[]=>cases hs
   |[c]=>
    cases hs
    cases gF with
    |nil=>exact⟨[],eQ c.node b,rfl,.inl rfl⟩
    |cons x r=>exact⟨eQ c.node x::r,b,rfl,.inl rfl⟩
   |c::d::r=>cases hs;exact⟨gF,b,rfl,.inl rfl⟩
  rw[if_neg k12]at hs⊢
  by_cases k14:t.kind=14
  ·rw[if_pos k14]at hs⊢
   cases cs with
   |nil=>cases hs
   |cons c r=>cases hs;exact⟨gF,b,rfl,.inl rfl⟩
  rw[if_neg k14]at hs⊢
  by_cases k13:t.kind=13
  ·rw[if_pos k13]at hs⊢
   cases cs with
   |nil=>cases hs
   |cons c r=>
    simp only[deep]at hs⊢
    split at hs
    ·rename_i hk
     cases hs
     exact⟨gF,b,rfl,.inl (by rw[if_pos hk])⟩
    ·cases hs
  rw[if_neg k13]at hs⊢
  obtain⟨h1,h2⟩:=me hs
  exact⟨gF,b,h1,h2⟩
 ·replace hs:gD ⟨nx+1+1+1,gF++[b],cs,[]⟩ t=.ok s1:=hs
  show∃mP b1,_∧(gD _ t=_∨gD _ t=_∧_)
  unfold gD at hs⊢
  cases cs with
  |nil=>cases hs
  |cons c r=>
   simp only[deep]at hs⊢
   split at hs
   ·cases hs
   ·rename_i l hl
    split at hs
    ·cases hs
    rename_i hk
    split at hs
    ·cases hs
    rename_i hk'
    cases hs
    exact⟨gF,b,rfl,.inl (by rw[if_neg hk,if_neg hk'])⟩
/--With no names all tokens do deeper in what they do above; or they are too deep there. -/
theorem rQ{a:Nd}{pre:List Nd}{und:List Bd}{ns:List (List UInt8)}:∀{ts:List Tk}{gF:List Bd}{b:Bd}{s sf:PS},runS s ts=.ok sf→s.bs=gF++[b]→sf.nm=[]→(∀t∈ts,mX t)→
  ∃mP b1,sf.bs=mP++[b1]∧(runS (deep a pre und ns gF b s) ts=.ok (deep a pre und ns mP b1 sf)∨((∃i,runS (deep a pre und ns gF b s) ts=.error (153,i))∧und≠[]))
 |[],gF,b,s,sf,h,hb,hn,ht=>by cases h;exact⟨gF,b,hb,.inl rfl⟩
 |t::ts,gF,b,s,sf,h,hb,hn,ht=>by
  rw[runS]at h
  split at h
  ·rename_i s1 hs
   have hn1:=BJ h hn
   obtain⟨mP,b1,hb1,h1⟩:=o6 (a:=a) (pre:=pre) (und:=und) (ns:=ns) hs hb (qP hs hn1) hn1 (ht t (by simp))
   obtain⟨inn2,b2,hb2,h2⟩:=rQ (a:=a) (pre:=pre) (und:=und) (ns:=ns) h hb1 hn (fun x hx=>ht x (by simp[hx]))
   refine⟨inn2,b2,hb2,?_⟩
   rw[runS]
   rcases h1 with h1|⟨h1,hu⟩
   ·rw[h1];exact h2
   ·rw[h1];exact .inr ⟨⟨_,rfl⟩,hu⟩
  ·cases h
end Go.Proofs.YtgbkolonhddolaaGreatDoor.prs
namespace Go.Proofs.YtgbkolonhddolaaGreatDoor.prs
open Go.RowKit nod tok
open rng(R RV info_parts)
/--The value v reads as the tree t, in blocks of which P holds, whatever becomes of the others. -/
def Fz(P:Nat→Prop)(w:World)(t:Nd)(v:Value):Prop:=∀w'':World,(∀k,k<w.heap.size→P k→w''.heap[k]?=w.heap[k]?)→NV w.heap.size w'' t v
theorem Fz.to{P P':Nat→Prop}{w w':World}{t:Nd}{v:Value}(h:Fz P w t v)(hs:w.heap.size≤w'.heap.size)(hb:∀k,k<w.heap.size→P k→w'.heap[k]?=w.heap[k]?∧P' k):Fz P' w' t v:=
 fun w'' hw=>(h w'' fun k hk hp=>(hw k (by omega) (hb k hk hp).2).trans (hb k hk hp).1).wide hs
theorem Fz.nv{P:Nat→Prop}{w:World}{t:Nd}{v:Value}(h:Fz P w t v):NV w.heap.size w t v:=h w fun _ _ _=>rfl
theorem Fz.mono{P P':Nat→Prop}{w:World}{t:Nd}{v:Value}(h:Fz P w t v)(hp:∀k,P k→P' k):Fz P' w t v:=h.to (Nat.le_refl _) fun k _ hk=>⟨rfl,hp k hk⟩
/--A node's cells, its set being none. -/
structure Nv where
 k:Int
 m:Int
 a:Int
 b:Int
 g:Bool
 nm:ByteArray
 ka:Option Addr
 kn:Nat
 kc:Nat
def c8(x:Nv):List Value:=[.int .i64 x.k,.int .i64 x.m,.int .i64 x.a,.int .i64 x.b,.bool x.g,.string x.nm,.slice none 0 0,.slice x.ka x.kn x.kc]
def a8(x:Nv):Value:=.agg #[.int .i64 x.k,.int .i64 x.m,.int .i64 x.a,.int .i64 x.b,.bool x.g,.string x.nm,.slice none 0 0,.slice x.ka x.kn x.kc]
def bI(l:List Nv):List Value:=l.flatMap c8
theorem nM(x:Nv)(l:List Nv):bI (x::l)=c8 x++bI l:=rfl
theorem iI(l r:List Nv):bI (l++r)=bI l++bI r:=by simp[bI]
theorem mI(x:Nv):bI [x]=c8 x:=by simp[bI]
theorem xB(l:List Nv):(bI l).length=l.length*8:=by
 induction l with
 |nil=>rfl
 |cons x l ih=>rw[nM];simp[c8];omega
theorem jU:∀(l:List Nv)(i j:Nat)(x:Nv)(u:Value),l[i]?=some x→(c8 x)[j]?=some u→(bI l)[i*8+j]?=some u
 |[],i,j,x,u,h,_=>by simp at h
 |y::l,0,j,x,u,h,hu=>by
  simp at h;subst h
  rw[nM,Nat.zero_mul,Nat.zero_add,List.getElem?_append_left (List.getElem?_eq_some_iff.1 hu).1];exact hu
 |y::l,i+1,j,x,u,h,hu=>by
  have:=jU l i j x u (by simpa using h) hu
  rw[nM,List.getElem?_append_right (by simp[c8];omega)]
  rw[show(i+1)*8+j-(c8 y).length=i*8+j by simp[c8];omega];exact this
theorem tK(x:Nv):∀u∈c8 x,u.oneCell'=true:=by
 intro u hu
 simp only[c8,List.mem_cons,List.mem_nil_iff,or_false]at hu
 rcases hu with rfl|rfl|rfl|rfl|rfl|rfl|rfl|rfl<;>rfl
/--The last node, set anew cell by cell. -/
theorem Ha(l:List Nv)(x y:Nv)(o:Nat)(ho:o=l.length*8):((((((((bI (l++[x])).set o (.int .i64 y.k)).set (o+1) (.int .i64 y.m)).set (o+2) (.int .i64 y.a)).set (o+3) (.int .i64 y.b)).set (o+4) (.bool y.g)).set (o+5) (.string y.nm)).set (o+6) (.slice none 0 0)).set (o+7) (.slice y.ka y.kn y.kc)=bI (l++[y]):=by
 have hl:=xB l
 subst ho
 rw[iI,iI,mI,mI,←hl]
 generalize bI l=L
 have hs:∀(j:Nat)(u:Value)(z:List Value),(L++z).set (L.length+j) u=L++z.set j u:=fun j u z=>by
  rw[List.set_append_right _ _ (by omega)];congr 2;omega
 have h0:∀(u:Value)(z:List Value),(L++z).set L.length u=L++z.set 0 u:=fun u z=>hs 0 u z
 rw[h0,hs,hs,hs,hs,hs,hs,hs]
 rfl
/--Cells that read as trees. -/
def RN(P:Nat→Prop)(w:World)(xs:List Nv)(l:List Nd):Prop:=xs.length=l.length∧∀(i:Nat)x t,xs[i]?=some x→l[i]?=some t→Fz P w t (a8 x)
theorem RN.nil(P:Nat→Prop)(w:World):RN P w [] []:=⟨rfl,fun i x t h=>by simp at h⟩
theorem RN.snoc{P:Nat→Prop}{w:World}{xs:List Nv}{l:List Nd}{x:Nv}{t:Nd}(h:RN P w xs l)(hf:Fz P w t (a8 x)):RN P w (xs++[x]) (l++[t]):=by
 refine⟨by simp[h.1],fun i y u h1 h2=>?_⟩
 by_cases hi:i<xs.length
 ·rw[List.getElem?_append_left hi]at h1
  rw[List.getElem?_append_left (by have:=h.1;omega)]at h2
  exact h.2 i y u h1 h2
 ·rw[List.getElem?_append_right (by omega)]at h1
  rw[List.getElem?_append_right (by have:=h.1;omega),←h.1]at h2
  have h0:=(List.getElem?_eq_some_iff.1 h1).1
  obtain⟨q,hq⟩:∃q,i-xs.length=q:=⟨_,rfl⟩
  rw[hq]at h0 h1 h2
  obtain rfl:q=0:=by simpa using h0
  simp at h1 h2
  subst h1 h2
  exact hf
theorem RN.imp{P P':Nat→Prop}{w w':World}{xs:List Nv}{l:List Nd}(h:RN P w xs l)(hf:∀t v,Fz P w t v→Fz P' w' t v):RN P' w' xs l:=⟨h.1,fun i x t h1 h2=>hf _ _ (h.2 i x t h1 h2)⟩
theorem RN.last{P:Nat→Prop}{w:World}{xs:List Nv}{l:List Nd}{t:Nd}(h:RN P w xs l)(hl:l.getLast?=some t):∃ys x,xs=ys++[x]∧ys.length+1=l.length∧Fz P w t (a8 x)∧RN P w ys l.dropLast:=by
 obtain⟨l',rfl⟩:=List.getLast?_eq_some_iff.1 hl
 have h1:=h.1
 rw[List.length_append,List.length_singleton]at h1
 obtain⟨ys,x,rfl⟩:∃ys x,xs=ys++[x]:=by
  rcases List.eq_nil_or_concat xs with rfl|⟨ys,x,rfl⟩
  ·simp at h1
  ·exact⟨ys,x,by simp⟩
 simp at h1
 refine⟨ys,x,rfl,by simp[h1],h.2 ys.length x t (by simp) (by rw[h1];simp),?_,?_⟩
 ·simpa using h1
 ·intro i y u h2 h3
  rw[List.dropLast_concat]at h3
  have g1:=(List.getElem?_eq_some_iff.1 h2).1
  exact h.2 i y u (by rw[List.getElem?_append_left g1];exact h2) (by rw[List.getElem?_append_left (by omega)];exact h3)
/--A node whose kids lie in a row that nothing writes into any more. -/
theorem qW{P:Nat→Prop}{B:Nat}{w:World}{k m a b:Int}{g:Bool}{n:ByteArray}{ks:List Nd}{ao:Option Addr}{nk cap:Nat}{xs:List Nv}
  (hi:dQ k∧dQ m∧dQ a∧dQ b)(hn:n.size≤maxLen)(hnk:ks.length=nk)(ho:w.ownsRow B 26 8 (.slice ao nk cap) nk (bI xs))(hk:RN P w xs ks)(hP:∀x,(Value.slice ao nk cap).ownBlock=some x→P x):
  Fz P w (.mk k m a b g n [] ks) (.agg #[.int .i64 k,.int .i64 m,.int .i64 a,.int .i64 b,.bool g,.string n,.slice none 0 0,.slice ao nk cap]):=by
 intro w'' hw
 have ho'':w''.ownsRow B 26 8 (.slice ao nk cap) nk (bI xs):=by
  refine⟨ho.1,?_⟩
  rcases ho.2 with h|⟨g1,c1,Lj,e,hg,hgg,rest⟩
  ·exact .inl h
  ·exact .inr ⟨g1,c1,Lj,e,hg,(hw g1 (Array.getElem?_eq_some_iff.1 hgg).1 (hP g1 (by rw[e];rfl))).trans hgg,rest⟩
 subst hnk
 have hs0:RV w'' none []∧(∀x,(none:Option Addr)=some x→([]:List R)≠[]→x.block<w.heap.size)∧([]:List R).length≤0∧0≤maxLen∧((none:Option Addr)=none→0=0):=⟨.inl rfl,fun x e=>(by cases e),Nat.le_refl _,by simp[maxLen],fun _=>rfl⟩
 rcases ho.2 with⟨e,h0⟩|⟨g1,c1,Lj,e,hg,hgg,h1,h2,_⟩
 ·simp only[Value.slice.injEq]at e
  obtain⟨rfl,_,rfl⟩:=e
  exact NV.shut hi hn hs0 ⟨by omega,by simp[maxLen],fun _=>rfl⟩ (.inl (List.length_eq_zero_iff.1 h0))
 ·simp only[Value.slice.injEq,true_and]at e
  obtain⟨rfl,rfl⟩:=e
  refine NV.shut hi hn hs0 ⟨h1,h2,fun e=>(by cases e)⟩ (.inr ⟨g1,0,rfl,(Array.getElem?_eq_some_iff.1 hgg).1,fun i t hit=>?_⟩)
  have hil:=(List.getElem?_eq_some_iff.1 hit).1
  obtain⟨x,hx⟩:∃x,xs[i]?=some x:=⟨_,List.getElem?_eq_getElem (by rw[hk.1];exact hil)⟩
  have cl:∀j u,(c8 x)[j]?=some u→w''.cell? ⟨g1,0+i*8+j,none⟩=some u:=fun j u hu=>by
   have hj:j<8:=by have:=(List.getElem?_eq_some_iff.1 hu).1;simpa[c8]using this
   rw[Nat.zero_add,ho''.cellAt _ (by omega)];exact jU xs i j x u hx hu
  exact⟨a8 x,⟨_,_,_,_,_,_,_,_,rfl,cl 0 _ rfl,cl 1 _ rfl,cl 2 _ rfl,cl 3 _ rfl,cl 4 _ rfl,cl 5 _ rfl,cl 6 _ rfl,cl 7 _ rfl⟩,hk.2 i x t hx hit w'' hw⟩
/--A block of nodes. -/
def lh(w:World)(k:Nat):Prop:=∃cs fr,w.heap[k]?=some (.cells cs 26 fr)
theorem lh.lt{w:World}{k:Nat}(h:lh w k):k<w.heap.size:=by obtain⟨_,_,h⟩:=h;exact(Array.getElem?_eq_some_iff.1 h).1
theorem lh.own{w:World}{B n:Nat}{v:Value}{xs:List Value}{k:Nat}(h:w.ownsRow B 26 8 v n xs)(e:v.ownBlock=some k):lh w k:=by
 rcases h.2 with⟨rfl,_⟩|⟨g,cap,cur,rfl,_,hg,_⟩
 ·cases e
 ·cases e;exact⟨_,_,hg⟩
/--Rows of nodes that may still grow: the slice, and the trees that it has. -/
abbrev Lr:Type:=Value×List Nd
/--A block of nodes that is none of the rows'. -/
def isB(B:Nat)(w:World)(k:Nat):Prop:=lh w k∧B≤k
theorem isB.lt{B:Nat}{w:World}{k:Nat}(h:isB B w k):k<w.heap.size:=h.1.lt
def Dd(B:Nat)(w:World)(rs:List Lr)(k:Nat):Prop:=isB B w k∧∀r∈rs,r.1.ownBlock≠some k
theorem lr_symm{a b:Lr}(h:a.1.ownBlock=none∨a.1.ownBlock≠b.1.ownBlock):b.1.ownBlock=none∨b.1.ownBlock≠a.1.ownBlock:=by
 rcases h with e|e
 ·cases hb:b.1.ownBlock with
  |none=>exact .inl rfl
  |some y=>exact .inr (fun e'=>by rw[e]at e';cases e')
 ·exact .inr (fun e'=>e e'.symm)
structure Rows(B:Nat)(w:World)(rs:List Lr):Prop where
 each:∀r∈rs,∃xs,w.ownsRow B 26 8 r.1 r.2.length (bI xs)∧RN (Dd B w rs) w xs r.2
 apart:rs.Pairwise fun a b=>a.1.ownBlock=none∨a.1.ownBlock≠b.1.ownBlock
/--Of the blocks of nodes only x, and new ones, have changed. -/
structure NU(x:Option Nat)(w w':World):Prop where
 size:w.heap.size≤w'.heap.size
 block:∀k,lh w k→some k≠x→w'.heap[k]?=w.heap[k]?
theorem NU.lh{x:Option Nat}{w w':World}{k:Nat}(h:NU x w w')(hk:prs.lh w k)(hx:some k≠x):prs.lh w' k:=by
 obtain⟨cs,fr,e⟩:=hk
 exact⟨cs,fr,(h.block k ⟨cs,fr,e⟩ hx).trans e⟩
theorem NU.trans{x:Option Nat}{a b c:World}(h:NU x a b)(k:NU x b c):NU x a c:=⟨Nat.le_trans h.size k.size,fun i hi hx=>(k.block i (h.lh hi hx) hx).trans (h.block i hi hx)⟩
theorem NU.of_below{x:Option Nat}{w w':World}(h:Below w.heap.size w w'):NU x w w':=⟨h.size,fun k hk _=>h.block k hk.lt⟩
theorem NU.aF{x:Option Nat}{w w':World}(h:w.grownBy w' x):NU x w w':=⟨h.size,fun k hk hx=>h.block k hk.lt hx⟩
theorem NU.iU{x y:Option Nat}{w w':World}(h:w.grownBy w' y)(hy:∀k,y=some k→¬prs.lh w k):NU x w w':=⟨h.size,fun k hk _=>h.block k hk.lt (fun e=>hy k e.symm hk)⟩
theorem ay(w:World)(g i:Nat)(u:Value):w.grownBy (w.setCell ⟨g,i,none⟩ u) (some g):=⟨rfl,rfl,rfl,by simp[World.setCell],fun k _ hk=>Below.heap_setCell _ _ _ _ (fun e=>hk (by rw[e]))⟩
theorem qV{w:World}{g:Nat}{cs:Array Value}{t:TypeId}{fr:Nat×Nat}(h:w.heap[g]?=some (.cells cs t fr))(ht:t≠26):¬lh w g:=by
 rintro⟨cs',fr',e⟩
 rw[h]at e;cases e;exact ht rfl
theorem bT{w:World}{B z n k:Nat}{t:TypeId}{v:Value}{xs:List Value}(h:w.ownsRow B t z v n xs)(ht:t≠26)(e:v.ownBlock=some k):¬lh w k:=by
 rcases h.2 with⟨rfl,_⟩|⟨g,cap,cur,rfl,_,hg,_⟩
 ·cases e
 ·cases e;exact qV hg ht
theorem Cc{x:Option Nat}{w w':World}{B n:Nat}{v:Value}{xs:List Value}(h:w.ownsRow B 26 8 v n xs)(hu:NU x w w')(hx:v.ownBlock=none∨v.ownBlock≠x):w'.ownsRow B 26 8 v n xs:=by
 refine⟨h.1,?_⟩
 rcases h.2 with h|⟨g,cap,cur,rfl,hb,hg,rest⟩
 ·exact .inl h
 ·exact .inr ⟨g,cap,cur,rfl,hb,(hu.block g ⟨_,_,hg⟩ (hx.elim (fun e=>by cases e) id)).trans hg,rest⟩
theorem Fz.dd{B:Nat}{x:Option Nat}{w w':World}{rs rs':List Lr}{t:Nd}{v:Value}(h:Fz (Dd B w rs) w t v)(hu:NU x w w')(hx:∀k,x=some k→¬Dd B w rs k)(hrs:∀k,Dd B w rs k→∀r∈rs',r.1.ownBlock≠some k):Fz (Dd B w' rs') w' t v:=
 h.to hu.size fun k hk hp=>have hne:some k≠x:=fun e=>hx k e.symm hp;⟨hu.block k hp.1.1 hne,⟨hu.lh hp.1.1 hne,hp.1.2⟩,hrs k hp⟩
theorem Fz.nu{B:Nat}{w w':World}{rs:List Lr}{t:Nd}{v:Value}(h:Fz (Dd B w rs) w t v)(hu:NU none w w'):Fz (Dd B w' rs) w' t v:=h.dd hu (fun k e=>by cases e) fun k hk=>hk.2
theorem Rows.nu{B:Nat}{w w':World}{rs:List Lr}(h:Rows B w rs)(hu:NU none w w'):Rows B w' rs:=
 ⟨fun r hr=>by obtain⟨xs,h1,h2⟩:=h.each r hr;exact⟨xs,Cc h1 hu (by cases r.1.ownBlock<;>simp),h2.imp fun t v f=>f.nu hu⟩,h.apart⟩
/--The first row has become another one. -/
theorem Rows.grow_k{B:Nat}{w w':World}{v v':Value}{l l':List Nd}{rest:List Lr}(hb:v'.ownBlock=v.ownBlock∨∀x,v'.ownBlock=some x→w.heap.size≤x):∀k,Dd B w ((v,l)::rest) k→∀r∈(v',l')::rest,r.1.ownBlock≠some k:=by
 intro k hk r hr
 rcases List.mem_cons.1 hr with rfl|hr
 ·intro e
  rcases hb with hb|hb
  ·exact hk.2 (v,l) (by simp) (hb▸e)
  ·have:=hb k e;have:=hk.1.lt;omega
 ·exact hk.2 r (by simp[hr])
theorem Fz.grow{B:Nat}{w w':World}{v v':Value}{l l':List Nd}{rest:List Lr}{t:Nd}{u:Value}(h:Fz (Dd B w ((v,l)::rest)) w t u)(hu:NU v.ownBlock w w')(hb:v'.ownBlock=v.ownBlock∨∀x,v'.ownBlock=some x→w.heap.size≤x):Fz (Dd B w' ((v',l')::rest)) w' t u:=
 h.dd hu (fun k e hk=>hk.2 (v,l) (by simp) e) (Rows.grow_k (w':=w') hb)
theorem Rows.grow{B:Nat}{w w':World}{v v':Value}{l l':List Nd}{rest:List Lr}{xs':List Nv}(h:Rows B w ((v,l)::rest))(hu:NU v.ownBlock w w')(hb:v'.ownBlock=v.ownBlock∨∀x,v'.ownBlock=some x→w.heap.size≤x)
  (ho:w'.ownsRow B 26 8 v' l'.length (bI xs'))(hr:RN (Dd B w ((v,l)::rest)) w xs' l'):Rows B w' ((v',l')::rest):=by
 have hap:=List.pairwise_cons.1 h.apart
 refine⟨fun r hr'=>?_,List.pairwise_cons.2 ⟨fun r hr'=>?_,hap.2⟩⟩
 ·rcases List.mem_cons.1 hr' with rfl|hr'
  ·exact⟨xs',ho,hr.imp fun t u f=>f.grow hu hb⟩
  ·obtain⟨ys,h1,h2⟩:=h.each r (by simp[hr'])
   refine⟨ys,Cc h1 hu ?_,h2.imp fun t u f=>f.grow hu hb⟩
   cases hq:r.1.ownBlock with
   |none=>exact .inl rfl
   |some y=>
    refine .inr (fun e=>?_)
    rcases hap.1 r hr' with e'|e'
    ·have e':v.ownBlock=none:=e'
     rw[e']at e;cases e
    ·exact e' (hq▸e.symm)
 ·rcases hb with hb|hb
  ·show v'.ownBlock=none∨v'.ownBlock≠r.1.ownBlock
   rw[hb];exact hap.1 r hr'
  ·cases hq:v'.ownBlock with
   |none=>exact .inl rfl
   |some y=>
    refine .inr (fun e=>?_)
    obtain⟨ys,h1,_⟩:=h.each r (by simp[hr'])
    have h2:=(h1.lt y e.symm).2
    have:=hb y hq
    omega
theorem Rows.tail{B:Nat}{w:World}{r:Lr}{rest:List Lr}(h:Rows B w (r::rest)):Rows B w rest:=
 ⟨fun q hq=>by
  obtain⟨xs,h1,h2⟩:=h.each q (by simp[hq])
  exact⟨xs,h1,h2.imp fun t v f=>f.mono fun k hk=>⟨hk.1,fun q hq=>hk.2 q (by simp[hq])⟩⟩,(List.pairwise_cons.1 h.apart).2⟩
theorem Rows.Ch{B:Nat}{w:World}{rest:List Lr}(h:Rows B w rest):Rows B w ((.slice none 0 0,[])::rest):=by
 have hm:∀k,Dd B w rest k→Dd B w ((.slice none 0 0,[])::rest) k:=fun k hk=>⟨hk.1,fun q hq=>by
  rcases List.mem_cons.1 hq with rfl|hq
  ·intro e;cases e
  ·exact hk.2 q hq⟩
 refine⟨fun q hq=>?_,List.pairwise_cons.2 ⟨fun q hq=>.inl rfl,h.apart⟩⟩
 rcases List.mem_cons.1 hq with rfl|hq
 ·exact⟨[],World.ownsRow_nil _ _ _ _,RN.nil _ _⟩
 ·obtain⟨xs,h1,h2⟩:=h.each q hq
  exact⟨xs,h1,h2.imp fun t v f=>f.mono hm⟩
theorem Rows.perm{B:Nat}{w:World}{rs rs':List Lr}(h:Rows B w rs)(hp:rs.Perm rs'):Rows B w rs':=
 ⟨fun q hq=>by
   obtain⟨xs,h1,h2⟩:=h.each q (hp.mem_iff.2 hq)
   exact⟨xs,h1,h2.imp fun t v f=>f.mono fun k hk=>⟨hk.1,fun q hq=>hk.2 q (hp.mem_iff.2 hq)⟩⟩,
  (hp.pairwise_iff lr_symm).1 h.apart⟩
/--A row that grows no more is a node's kids. -/
theorem Rows.shut{B:Nat}{w:World}{ao:Option Addr}{nk cap:Nat}{ks:List Nd}{rest:List Lr}(h:Rows B w ((.slice ao nk cap,ks)::rest)){k m a b:Int}{g:Bool}{n:ByteArray}(hi:dQ k∧dQ m∧dQ a∧dQ b)(hn:n.size≤maxLen)(hnk:ks.length=nk):
  Fz (Dd B w rest) w (.mk k m a b g n [] ks) (.agg #[.int .i64 k,.int .i64 m,.int .i64 a,.int .i64 b,.bool g,.string n,.slice none 0 0,.slice ao nk cap]):=by
 obtain⟨xs,h1,h2⟩:=h.each (.slice ao nk cap,ks) (by simp)
 simp only[hnk]at h1
 refine qW hi hn hnk h1 (h2.imp fun t v f=>f.mono fun k hk=>⟨hk.1,fun q hq=>hk.2 q (by simp[hq])⟩) fun x e=>⟨⟨lh.own h1 e,(h1.lt x e).1⟩,fun r hr e'=>?_⟩
 rcases(List.pairwise_cons.1 h.apart).1 r hr with e2|e2
 ·have e2:(Value.slice ao nk cap).ownBlock=none:=e2
  rw[e2]at e;cases e
 ·exact e2 (e.trans e'.symm)
theorem Rows.len{B:Nat}{w:World}{ao:Option Addr}{nk cap:Nat}{ks:List Nd}{rest:List Lr}(h:Rows B w ((.slice ao nk cap,ks)::rest)):ks.length=nk∧nk≤cap∧cap≤maxLen∧(ao=none→cap=0):=by
 obtain⟨xs,h1,h2⟩:=h.each (.slice ao nk cap,ks) (by simp)
 rcases h1.2 with⟨e,h0⟩|⟨g1,c1,Lj,e,hg,hgg,h1,h2,_⟩
 ·simp only[Value.slice.injEq]at e
  obtain⟨rfl,rfl,rfl⟩:=e
  exact⟨h0,Nat.le_refl _,by simp[maxLen],fun _=>rfl⟩
 ·simp only[Value.slice.injEq]at e
  obtain⟨rfl,rfl,rfl⟩:=e
  exact⟨rfl,h1,h2,fun e=>(by cases e)⟩
end Go.Proofs.YtgbkolonhddolaaGreatDoor.prs
