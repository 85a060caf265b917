import Derived.Test.YtgbkolonhddolaaGreatDoorBpTre12
import Derived.Test.YtgbkolonhddolaaGreatDoorBpNod1
import Derived.Test.YtgbkolonhddolaaGreatDoorBpTre1
set_option linter.unusedSimpArgs false
set_option linter.unusedVariables false
set_option maxRecDepth 10000
set_option maxHeartbeats 8000000
theorem Go.Proofs.YtgbkolonhddolaaGreatDoor.hd39{p:Prop}(h:p):Go.RowKit.Hid p:=h
namespace Go.Proofs.YtgbkolonhddolaaGreatDoor.tre
open Go.RowKit nod
open rng(R RV aH ag below_drewN info_parts own_below')
open tok(PEnv TX ak)
theorem Bz(base g:Nat)(w:World)(c1:w.cell? ⟨g,1,none⟩=some (.slice none 0 0)):
  Calls Tryz.prog 35 #[.pointer (some ⟨g,0,none⟩)] w fun e w'=>e=.returned (.string ByteArray.empty)∧Below base w w':=by
 have c2:w.drew.cell? ⟨g,1,none⟩=some (.slice none 0 0):=c1
 have hSD:(Builtin.unsafeSliceData_ #[22] 88 #[.slice none 0 0]).run Tryz.prog w.drew=.ok (.pointer none) w.drew:=Lib.run_unsafeSliceData_nil _ _ _ _ _
 have hUS:(Builtin.unsafeString_ #[88,3] 9 #[.pointer none,.int .i64 0]).run Tryz.prog w.drew=.ok (.string ByteArray.empty) w.drew:=Lib.run_unsafeString_none _ _ _ _ _
 generalize ByteArray.empty=X at*
 go_enter Tryz.func35,Tryz.ntmps35
 go_wp2
 go_region
 all_goals(try go_wp2;go_ret;exact⟨rfl,Below.drew (Below.refl base w)⟩)
theorem BB(base g gb cap:Nat)(w:World)(c1:w.cell? ⟨g,1,none⟩=some (.slice (some ⟨gb,0,none⟩) 0 cap))(p:Option Addr)(hSD:(Builtin.unsafeSliceData_ #[22] 88 #[.slice (some ⟨gb,0,none⟩) 0 cap]).run Tryz.prog w.drew=.ok (.pointer p) w.drew):
  Calls Tryz.prog 35 #[.pointer (some ⟨g,0,none⟩)] w fun e w'=>e=.returned (.string ByteArray.empty)∧Below base w w':=by
 have c2:w.drew.cell? ⟨g,1,none⟩=some (.slice (some ⟨gb,0,none⟩) 0 cap):=c1
 have hUS:(Builtin.unsafeString_ #[88,3] 9 #[.pointer p,.int .i64 0]).run Tryz.prog w.drew=.ok (.string ByteArray.empty) w.drew:=Lib.run_unsafeString_none _ _ _ _ _
 generalize ByteArray.empty=X at*
 go_enter Tryz.func35,Tryz.ntmps35
 go_wp2
 go_region
 all_goals(try go_wp2;go_ret;exact⟨rfl,Below.drew (Below.refl base w)⟩)
theorem string_zero(base g gb:Nat)(w V:World)(c1:w.cell? ⟨g,1,none⟩=some (.slice (some ⟨gb,0,none⟩) 0 0))(p:Option Addr)(hSD:(Builtin.unsafeSliceData_ #[22] 88 #[.slice (some ⟨gb,0,none⟩) 0 0]).run Tryz.prog w.drew=.ok (.pointer p) V)(hV:V.cell? ⟨g,1,none⟩=some (.slice (some ⟨gb,0,none⟩) 0 0))(hb:Below base w V):
  Calls Tryz.prog 35 #[.pointer (some ⟨g,0,none⟩)] w fun e w'=>e=.returned (.string ByteArray.empty)∧Below base w w':=by
 have c2:w.drew.cell? ⟨g,1,none⟩=some (.slice (some ⟨gb,0,none⟩) 0 0):=c1
 have hUS:(Builtin.unsafeString_ #[88,3] 9 #[.pointer p,.int .i64 0]).run Tryz.prog V=.ok (.string ByteArray.empty) V:=Lib.run_unsafeString_none _ _ _ _ _
 generalize ByteArray.empty=X at*
 have HB:Hid (Below base w V):=hb
 clear hb
 go_enter Tryz.func35,Tryz.ntmps35
 go_wp2
 go_region
 all_goals(try go_wp2;go_ret;exact⟨rfl,HB.out⟩)
theorem str_any(base g:Nat)(s:Wr)(w:World)(h:fu w base g s):Calls Tryz.prog 35 #[.pointer (some ⟨g,0,none⟩)] w fun e w'=>e=.returned (.string ⟨s.text.toArray⟩)∧Below base w w':=by
 by_cases h0:s.text=[]
 ·obtain⟨hB,p,v,nv,hbk,_,hown,_⟩:=h
  rw[h0]
  have c1:w.cell? ⟨g,1,none⟩=some v:=by rw[Lib.cell_of_heap hbk];rfl
  rcases hown.2 with⟨rfl,_⟩|⟨gb,cap,cur,rfl,_,hg,_,_,hcs,_⟩
  ·exact Bz base g w c1
  ·have hl:s.text.length=0:=by rw[h0];rfl
   rw[hl]at c1
   by_cases hc:cap=0
   ·subst hc
    have hsh:w.drew.shape? gb=some (5,cur.size):=by have hg':w.drew.heap[gb]?=some (.cells cur 5 (0,0)):=hg;simp[World.shape?,hg']
    have bA:Below w.heap.size w (w.drew.alloc (.view ⟨gb,0,none⟩ 5)):=(Below.drew (Below.refl _ w)).alloc (Nat.le_refl _) _
    have hgl:g<w.heap.size:=(Array.getElem?_eq_some_iff.1 hbk).1
    exact string_zero base g gb w _ c1 _ (Lib.run_unsafeSliceData_zero w.drew _ _ _ Tryz.underlying88 ⟨gb,0,none⟩ 0 (5,cur.size) hsh) ((bA.cell (p:=⟨g,1,none⟩) hgl).trans c1) (ae bA (by omega))
   ·exact BB base g gb cap w c1 _ (Lib.run_unsafeSliceData_row _ _ _ _ _ _ hc)
 ·exact nH base g s w h h0
/--A pattern as a text; none is empty. -/
def patB(o:Option (List UInt8)):ByteArray:=match o with|some l=>⟨l.toArray⟩|none=>ByteArray.empty
theorem ze{W:World}{v:Value}{t:Nd}(N:Nat)(hN:t.sz≤N)(hs:shortN t)(E:PEnv W)(hw:Pw W)(hv:NV W.heap.size W t v):
  Calls Tryz.prog 23 #[v] W fun e w'=>e=.returned (.tuple #[.string (patB (og N t)),.bool (og N t).isSome])∧Below W.heap.size W w':=by
 have hB:mY 34 (iy (bB N)) t:=by
  obtain⟨k',m',a',b',g',n',s',kk⟩:=t
  rw[Nd.sz]at hN
  rw[shortN]at hs
  refine Ak (fun y hy=>?_) (fun y hy z hzz=>?_)
  ·have:y.sz≤szL kk:=dW hy
   exact Aj N y (by omega) (cK hs.2 hy)
  ·have h1:y.sz≤szL kk:=dW hy
   have h2:=cK hs.2 hy
   obtain⟨k2,m2,a2,b2,g2,n2,s2,kk2⟩:=y
   rw[Nd.sz]at h1
   rw[shortN]at h2
   have h3:z.sz≤szL kk2:=dW hzz
   exact Aj N z (by omega) (cK h2.2 hzz)
 have hv0:=hv
 unfold og
 obtain⟨k,m,a,b,ng,n,st,ks,sa,sc,ao,cap,rfl,rfl,_⟩:=hv.open
 generalize st.length=sl at*
 generalize ks.length=nk at*
 generalize Nd.mk k m a b ng n st ks=T at*
 have HB:Hid (Below W.heap.size W ((W.alloc (.cells #[.int .i64 k,.int .i64 m,.int .i64 a,.int .i64 b,.bool ng,.string n,.slice sa sl sc,.slice ao nk cap] 26)).alloc (.cells #[.pointer none,.slice none 0 0,.int .i64 2000,.int .i64 0,.int .i64 0,.slice none 0 0] 79))):=bP _ _ _
 have HC:Cx W ((W.alloc (.cells #[.int .i64 k,.int .i64 m,.int .i64 a,.int .i64 b,.bool ng,.string n,.slice sa sl sc,.slice ao nk cap] 26)).alloc (.cells #[.pointer none,.slice none 0 0,.int .i64 2000,.int .i64 0,.int .i64 0,.slice none 0 0] 79)) W.heap.size (W.heap.size+1) w00:=⟨⟨E,rfl,HB.out,⟨by omega,.pointer none,.slice none 0 0,.slice none 0 0,bk2,.inl rfl,World.ownsRow_nil _ _ _ _,World.ownsRow_nil _ _ _ _⟩,by decide,by decide⟩,gd00⟩
 have CB:=hB W _ _ _ _ _ hw HC hv0
 have CS:Hid (∀W' s,Cx W W' W.heap.size (W.heap.size+1) s→Calls Tryz.prog 35 #[.pointer (some ⟨W.heap.size+1,0,none⟩)] W' fun e w'=>e=.returned (.string ⟨s.text.toArray⟩)∧Below W.heap.size W w'):=fun W' s c=>(str_any _ _ s W' c.c.wr).mono fun e w'⟨h1,h2⟩=>⟨h1,c.c.bel.trans h2⟩
 cases hP:iy (bB N) w00 T with
 |none=>
  have C:=CB.no hP
  clear CB hB HC E hw hv hv0 hP CS
  go_enter Tryz.func23,Tryz.ntmps23
  go_wp2_with(go_at_call 34;refine C.mono ?_;rintro e w1⟨rfl,d⟩;have HK:Hid (Kt W.heap.size _ w1):=d;clear d)
  go_ret2
  exact⟨rfl,HB.out.trans HK.out.below⟩
 |some s'=>
  have C:=CB.ok hP
  have CS2:Hid (∀W',Cx W W' W.heap.size (W.heap.size+1) s'→Calls Tryz.prog 35 #[.pointer (some ⟨W.heap.size+1,0,none⟩)] W' fun e w'=>e=.returned (.string ⟨s'.text.toArray⟩)∧Below W.heap.size W w'):=fun W' c=>CS.out W' s' c
  show Calls Tryz.prog 23 _ W fun e w'=>e=.returned (.tuple #[.string ⟨s'.text.toArray⟩,.bool true])∧Below W.heap.size W w'
  generalize(⟨s'.text.toArray⟩:ByteArray)=X at*
  clear CB hB HC E hw hv hv0 hP CS
  go_enter Tryz.func23,Tryz.ntmps23
  go_wp2_with(first
   |(go_at_call 34;refine C.mono ?_;rintro e w1⟨rfl,d,d'⟩;have HR:Hid (Cx W w1 W.heap.size (W.heap.size+1) s'):=d;clear d d')
   |(go_at_call 35;refine(CS2.out _ HR.out).mono ?_;rintro e w2⟨rfl,d⟩;have HF:Hid (Below W.heap.size W w2):=d;clear d))
  go_ret2
  exact⟨rfl,HF.out⟩
theorem can_any{W:World}{v:Value}{t:Nd}(N:Nat)(hN:t.sz≤N)(hs:shortN t)(E:PEnv W)(hw:Pw W)(hv:NV W.heap.size W t v):
  Calls Tryz.prog 19 #[v] W fun e w'=>e=.returned (.bool (og N t).isSome)∧Below W.heap.size W w':=by
 obtain⟨k,m,a,b,ng,n,st,ks,sa,sc,ao,cap,rfl,rfl,_⟩:=hv.open
 generalize st.length=sl at*
 generalize ks.length=nk at*
 generalize Nd.mk k m a b ng n st ks=T at*
 have HB:Hid (Below W.heap.size W (W.alloc (.cells #[.int .i64 k,.int .i64 m,.int .i64 a,.int .i64 b,.bool ng,.string n,.slice sa sl sc,.slice ao nk cap] 26))):=(Below.refl _ W).alloc (Nat.le_refl _) _
 have CP:=ze N hN hs (E.below HB.out) (hw.on HB.out) ((hv.keep HB.out).wide HB.out.size)
 cases hP:og N T with
 |none=>
  rw[hP]at CP
  have CP:Calls Tryz.prog 23 _ _ fun e w'=>e=.returned (.tuple #[.string ByteArray.empty,.bool false])∧_:=CP
  clear hv E hw hP
  show Calls Tryz.prog 19 _ W fun e w'=>e=.returned (.bool false)∧Below W.heap.size W w'
  go_enter Tryz.func19,Tryz.ntmps19
  go_wp2_with(go_at_call 23;refine CP.mono ?_;rintro e w1⟨rfl,d⟩;have HF:Hid (Below W.heap.size W w1):=HB.out.trans (ae d (by simp));clear d)
  go_ret
  exact⟨rfl,HF.out⟩
 |some l=>
  rw[hP]at CP
  have CP:Calls Tryz.prog 23 _ _ fun e w'=>e=.returned (.tuple #[.string ⟨l.toArray⟩,.bool true])∧_:=CP
  clear hv E hw hP
  show Calls Tryz.prog 19 _ W fun e w'=>e=.returned (.bool true)∧Below W.heap.size W w'
  generalize(⟨l.toArray⟩:ByteArray)=X at*
  go_enter Tryz.func19,Tryz.ntmps19
  go_wp2_with(go_at_call 23;refine CP.mono ?_;rintro e w1⟨rfl,d⟩;have HF:Hid (Below W.heap.size W w1):=HB.out.trans (ae d (by simp));clear d)
  go_ret
  exact⟨rfl,HF.out⟩
def ndDot:Nd:=.mk 2 0 0 0 false ByteArray.empty [] []
def ndChr:Nd:=.mk 1 0 97 0 false ByteArray.empty [] []
def ndRep:Nd:=.mk 8 0 1 (-1) false ByteArray.empty [] [ndDot]
def ndAwk:Nd:=.mk 6 0 0 0 false ByteArray.empty [] [ndChr,ndRep]
end Go.Proofs.YtgbkolonhddolaaGreatDoor.tre
namespace Go.Proofs.YtgbkolonhddolaaGreatDoor.tre
open Go.RowKit nod
open rng(R RV aH ag below_drewN info_parts own_below')
theorem mixedS:Tryz.prog.follows .mixedOrders=true:=by kernel_rfl
/--From w on nothing has changed, and the two nodes that came in lie behind it. -/
def Q2n(w:World)(b1 b2:Array Value)(w':World):Prop:=Below w.heap.size w w'∧Bk w' w.heap.size b1 26∧Bk w' (w.heap.size+1) b2 26
theorem Q2n.on{w w' w'':World}{b1 b2:Array Value}(q:Q2n w b1 b2 w')(d:Below w'.heap.size w' w''):Q2n w b1 b2 w'':=⟨q.1.trans (ae d q.1.size),q.2.1.on d,q.2.2.on d⟩
theorem D8{w:World}{sa:Option Addr}{s:List R}(h:RV w sa s)(h0:0<s.length):∃b off,sa=some ⟨b,off,none⟩∧∀(i:Nat)p,s[i]?=some p→w.cell? ⟨b,off+i*2,none⟩=some (.int .i64 p.1)∧w.cell? ⟨b,off+i*2+1,none⟩=some (.int .i64 p.2):=by
 rcases h with rfl|⟨b,off,e,h⟩
 ·simp at h0
 ·exact⟨b,off,e,fun i p hi=>h i p hi⟩
/--Two readings of one kid. -/
theorem kid_two{B:Nat}{w:World}{b1 o1 b2 o2 i:Nat}{ks:List Nd}{t:Nd}(h1:II B w b1 o1 ks)(h2:II B w b2 o2 ks)(hi:ks[i]?=some t):∃k m a b g n s kk s1 c1 a1 d1 s2 c2 a2 d2,t=.mk k m a b g n s kk∧
  nE w b1 (o1+i*8) (.agg #[.int .i64 k,.int .i64 m,.int .i64 a,.int .i64 b,.bool g,.string n,.slice s1 s.length c1,.slice a1 kk.length d1])∧nE w b2 (o2+i*8) (.agg #[.int .i64 k,.int .i64 m,.int .i64 a,.int .i64 b,.bool g,.string n,.slice s2 s.length c2,.slice a2 kk.length d2])∧
  NV B w t (.agg #[.int .i64 k,.int .i64 m,.int .i64 a,.int .i64 b,.bool g,.string n,.slice s1 s.length c1,.slice a1 kk.length d1])∧NV B w t (.agg #[.int .i64 k,.int .i64 m,.int .i64 a,.int .i64 b,.bool g,.string n,.slice s2 s.length c2,.slice a2 kk.length d2]):=by
 obtain⟨v1,p1,q1⟩:=h1.2 i t hi
 obtain⟨v2,p2,q2⟩:=h2.2 i t hi
 obtain⟨k,m,a,b,g,n,s,kk,s1,c1,a1,d1,rfl,rfl,_⟩:=q1.open
 obtain⟨_,_,_,_,_,_,_,_,s2,c2,a2,d2,e,rfl,_⟩:=q2.open
 cases e
 exact⟨k,m,a,b,g,n,s,kk,s1,c1,a1,d1,s2,c2,a2,d2,rfl,p1,p2,q1,q2⟩
theorem FN(k m a b:Int)(ng:Bool)(n:ByteArray)(st:List R)(ks:List Nd)(sa1 FO:Option Addr)(sl D7 FL:Nat)(yx Ay:Option Addr)(nk jr cap2:Nat)(w:World)(EN:Hid (st.length=sl))(HL:Hid (ks.length=nk))(hsc1:sl≤D7∧D7≤9223372036854775807)(hsc2:sl≤FL∧FL≤9223372036854775807)(hc1:nk≤jr∧jr≤9223372036854775807)(hc2:nk≤cap2∧cap2≤9223372036854775807)
    (HR1:Hid (RV w sa1 st∧∀x,sa1=some x→st≠[]→x.block<w.heap.size))(HR2:Hid (RV w FO st∧∀x,FO=some x→st≠[]→x.block<w.heap.size))(oU:Hid (KV w.heap.size w yx ks))(ui:Hid (KV w.heap.size w Ay ks))
    (HI:Hid (∀t∈ks,∀v1 v2 W,NV W.heap.size W t v1→NV W.heap.size W t v2→Calls Tryz.prog 10 #[v1,v2] W fun e w'=>e=.returned (.bool true)∧Below W.heap.size W w')):
    Calls Tryz.prog 10 #[.agg #[.int .i64 k,.int .i64 m,.int .i64 a,.int .i64 b,.bool ng,.string n,.slice sa1 sl D7,.slice yx nk jr],.agg #[.int .i64 k,.int .i64 m,.int .i64 a,.int .i64 b,.bool ng,.string n,.slice FO sl FL,.slice Ay nk cap2]] w fun e w'=>e=.returned (.bool true)∧Below w.heap.size w w':=by
  have b1:Bk ((w.alloc (.cells #[.int .i64 k,.int .i64 m,.int .i64 a,.int .i64 b,.bool ng,.string n,.slice sa1 sl D7,.slice yx nk jr] 26)).alloc (.cells #[.int .i64 k,.int .i64 m,.int .i64 a,.int .i64 b,.bool ng,.string n,.slice FO sl FL,.slice Ay nk cap2] 26)) w.heap.size #[.int .i64 k,.int .i64 m,.int .i64 a,.int .i64 b,.bool ng,.string n,.slice sa1 sl D7,.slice yx nk jr] 26:=(Bk.new w _ _).past _
  have HS:Hid (Q2n w #[.int .i64 k,.int .i64 m,.int .i64 a,.int .i64 b,.bool ng,.string n,.slice sa1 sl D7,.slice yx nk jr] #[.int .i64 k,.int .i64 m,.int .i64 a,.int .i64 b,.bool ng,.string n,.slice FO sl FL,.slice Ay nk cap2] ((w.alloc (.cells #[.int .i64 k,.int .i64 m,.int .i64 a,.int .i64 b,.bool ng,.string n,.slice sa1 sl D7,.slice yx nk jr] 26)).alloc (.cells #[.int .i64 k,.int .i64 m,.int .i64 a,.int .i64 b,.bool ng,.string n,.slice FO sl FL,.slice Ay nk cap2] 26))):=⟨bP _ _ _,b1,bk2⟩
  have es:(n.toList==n.toList)=true:=by simp
  clear b1
  go_enter Tryz.func10,Tryz.ntmps10
  go_wp2
  go_loopw[68](fun i wr=>∃(j:Nat),j≤sl∧i=.int .i64 j∧Hid (Q2n w #[.int .i64 k,.int .i64 m,.int .i64 a,.int .i64 b,.bool ng,.string n,.slice sa1 sl D7,.slice yx nk jr] #[.int .i64 k,.int .i64 m,.int .i64 a,.int .i64 b,.bool ng,.string n,.slice FO sl FL,.slice Ay nk cap2] wr))(fun i _=>sl-(intOf i).toNat)
  case atStart=>exact⟨0,by omega,rfl,HS⟩
  case round=>
    obtain⟨j,hj,rfl,HQ⟩:=hrel
    clear HS
    have x0:=HQ.out.2.1.cell 0 (u:=.int .i64 k) rfl
    have x1:=HQ.out.2.1.cell 1 (u:=.int .i64 m) rfl
    have x2:=HQ.out.2.1.cell 2 (u:=.int .i64 a) rfl
    have x3:=HQ.out.2.1.cell 3 (u:=.int .i64 b) rfl
    have x4:=HQ.out.2.1.cell 4 (u:=.bool ng) rfl
    have x5:=HQ.out.2.1.cell 5 (u:=.string n) rfl
    have x6:=HQ.out.2.1.cell 6 (u:=.slice sa1 sl D7) rfl
    have x7:=HQ.out.2.1.cell 7 (u:=.slice yx nk jr) rfl
    have y0:=HQ.out.2.2.cell 0 (u:=.int .i64 k) rfl
    have y1:=HQ.out.2.2.cell 1 (u:=.int .i64 m) rfl
    have y2:=HQ.out.2.2.cell 2 (u:=.int .i64 a) rfl
    have y3:=HQ.out.2.2.cell 3 (u:=.int .i64 b) rfl
    have y4:=HQ.out.2.2.cell 4 (u:=.bool ng) rfl
    have y5:=HQ.out.2.2.cell 5 (u:=.string n) rfl
    have y6:=HQ.out.2.2.cell 6 (u:=.slice FO sl FL) rfl
    have y7:=HQ.out.2.2.cell 7 (u:=.slice Ay nk cap2) rfl
    by_cases hlt:j<sl
    · obtain⟨pp,hpp⟩:=C8 EN.out hlt
      have hne:st≠[]:=by intro e;rw[e]at hpp;simp at hpp
      obtain⟨p1,o1,rfl,hr1⟩:=D8 HR1.out.1 (by have:=EN.out;omega)
      obtain⟨p2,o2,rfl,hr2⟩:=D8 HR2.out.1 (by have:=EN.out;omega)
      have q1:=HR1.out.2 _ rfl hne
      have q2:=HR2.out.2 _ rfl hne
      obtain⟨z1,z2⟩:=hr1 j pp hpp
      obtain⟨z3,z4⟩:=hr2 j pp hpp
      have u1:=(HQ.out.1.cell (p:=⟨p1,o1+j*2,none⟩) q1).trans z1
      have u2:=(HQ.out.1.cell (p:=⟨p1,o1+j*2+1,none⟩) q1).trans z2
      have u3:=(HQ.out.1.cell (p:=⟨p2,o2+j*2,none⟩) q2).trans z3
      have u4:=(HQ.out.1.cell (p:=⟨p2,o2+j*2+1,none⟩) q2).trans z4
      obtain⟨P1,P2⟩:=pp
      simp only[]at u1 u2 u3 u4
      clear z1 z2 z3 z4 hr1 hr2 hpp hne oU ui HI HR1 HR2
      go_wp2
      go_quiet(fail)
      go_wp2
      go_roundw
      case rel=>exact⟨j+1,by omega,by go_num,HQ.out.on (below_drewN (Below.refl _ _) _)⟩
      case measure=>simp[intOf];omega
    · clear HR1 HR2
      go_wp2
      go_loopw[86](fun i wr'=>∃(j:Nat),j≤nk∧i=.int .i64 j∧Hid (Q2n w #[.int .i64 k,.int .i64 m,.int .i64 a,.int .i64 b,.bool ng,.string n,.slice sa1 sl D7,.slice yx nk jr] #[.int .i64 k,.int .i64 m,.int .i64 a,.int .i64 b,.bool ng,.string n,.slice FO sl FL,.slice Ay nk cap2] wr'))(fun i _=>nk-(intOf i).toNat)
      case atStart=>exact⟨0,by omega,rfl,HQ⟩
      case round=>
        obtain⟨jj,hjj,rfl,HQ'⟩:=hrel
        clear HQ x0 x1 x2 x3 x4 x5 x6 x7 y0 y1 y2 y3 y4 y5 y6 y7
        by_cases hlt':jj<nk
        · obtain⟨t,ht⟩:=C8 HL.out hlt'
          have hmem:=List.mem_of_getElem? ht
          obtain⟨p1,o1,rfl,h1⟩:=oU.out.some (by have:=HL.out;omega)
          obtain⟨p2,o2,rfl,h2⟩:=ui.out.some (by have:=HL.out;omega)
          have hp1:=h1.1
          have hp2:=h2.1
          obtain⟨k',m',a',b',g',n',s',kk,s1',sc1',a1',Lu,s2',sc2',a2',Lt,rfl,e1,e2,v1,v2⟩:=kid_two h1 h2 ht
          have CI:=HI.out _ hmem
          obtain⟨T,hT⟩:∃T,Nd.mk k' m' a' b' g' n' s' kk=T:=⟨_,rfl⟩
          rw[hT]at v1 v2 CI
          generalize s'.length=sl' at*
          generalize kk.length=si at*
          obtain⟨V,HV⟩:∃V,wr=V:=⟨_,rfl⟩
          have HQV:Hid (Q2n w #[.int .i64 k,.int .i64 m,.int .i64 a,.int .i64 b,.bool ng,.string n,.slice sa1 sl D7,.slice (some ⟨p1,o1,none⟩) nk jr] #[.int .i64 k,.int .i64 m,.int .i64 a,.int .i64 b,.bool ng,.string n,.slice FO sl FL,.slice (some ⟨p2,o2,none⟩) nk cap2] V):=HV▸HQ'
          have CC:∀W,Below V.heap.size V W→Calls Tryz.prog 10 #[.agg #[.int .i64 k',.int .i64 m',.int .i64 a',.int .i64 b',.bool g',.string n',.slice s1' sl' sc1',.slice a1' si Lu],.agg #[.int .i64 k',.int .i64 m',.int .i64 a',.int .i64 b',.bool g',.string n',.slice s2' sl' sc2',.slice a2' si Lt]] W fun e w'=>e=.returned (.bool true)∧Below V.heap.size V w':=fun W hW=>by
            have hb:=HQV.out.1.trans (ae hW HQV.out.1.size)
            exact(CI _ _ W ((v1.keep hb).wide hb.size) ((v2.keep hb).wide hb.size)).mono fun e w'⟨h1,h2⟩=>⟨h1,hW.trans (ae h2 hW.size)⟩
          have HCC:Hid _:=CC
          have hall:∀p:nG V.heap.size V,(Q2n w #[.int .i64 k,.int .i64 m,.int .i64 a,.int .i64 b,.bool ng,.string n,.slice sa1 sl D7,.slice (some ⟨p1,o1,none⟩) nk jr] #[.int .i64 k,.int .i64 m,.int .i64 a,.int .i64 b,.bool ng,.string n,.slice FO sl FL,.slice (some ⟨p2,o2,none⟩) nk cap2] p.w):=fun p=>HQV.out.on p.h
          have f7:∀p:nG V.heap.size V,p.w.cell? ⟨w.heap.size,7,none⟩=some (.slice (some ⟨p1,o1,none⟩) nk jr):=fun p=>(hall p).2.1.cell 7 rfl
          have g7:∀p:nG V.heap.size V,p.w.cell? ⟨w.heap.size+1,7,none⟩=some (.slice (some ⟨p2,o2,none⟩) nk cap2):=fun p=>(hall p).2.2.cell 7 rfl
          have E1:∀p:nG V.heap.size V,nE p.w p1 (o1+jj*8) (.agg #[.int .i64 k',.int .i64 m',.int .i64 a',.int .i64 b',.bool g',.string n',.slice s1' sl' sc1',.slice a1' si Lu]):=fun p=>e1.below (hall p).1 hp1
          have E2:∀p:nG V.heap.size V,nE p.w p2 (o2+jj*8) (.agg #[.int .i64 k',.int .i64 m',.int .i64 a',.int .i64 b',.bool g',.string n',.slice s2' sl' sc2',.slice a2' si Lt]):=fun p=>e2.below (hall p).1 hp2
          have r10:∀p:nG V.heap.size V,p.w.cell? ⟨p1,o1+jj*8,none⟩=some (.int .i64 k'):=fun p=>by obtain⟨_,_,_,_,_,_,_,_,ee,q0,q1,q2,q3,q4,q5,q6,q7⟩:=E1 p;simp only[Value.agg.injEq,Array.mk.injEq,List.cons.injEq,and_true]at ee;obtain⟨rfl,rfl,rfl,rfl,rfl,rfl,rfl,rfl⟩:=ee;exact q0
          have r11:∀p:nG V.heap.size V,p.w.cell? ⟨p1,o1+jj*8+1,none⟩=some (.int .i64 m'):=fun p=>by obtain⟨_,_,_,_,_,_,_,_,ee,q0,q1,q2,q3,q4,q5,q6,q7⟩:=E1 p;simp only[Value.agg.injEq,Array.mk.injEq,List.cons.injEq,and_true]at ee;obtain⟨rfl,rfl,rfl,rfl,rfl,rfl,rfl,rfl⟩:=ee;exact q1
          have r12:∀p:nG V.heap.size V,p.w.cell? ⟨p1,o1+jj*8+2,none⟩=some (.int .i64 a'):=fun p=>by obtain⟨_,_,_,_,_,_,_,_,ee,q0,q1,q2,q3,q4,q5,q6,q7⟩:=E1 p;simp only[Value.agg.injEq,Array.mk.injEq,List.cons.injEq,and_true]at ee;obtain⟨rfl,rfl,rfl,rfl,rfl,rfl,rfl,rfl⟩:=ee;exact q2
          have r13:∀p:nG V.heap.size V,p.w.cell? ⟨p1,o1+jj*8+3,none⟩=some (.int .i64 b'):=fun p=>by obtain⟨_,_,_,_,_,_,_,_,ee,q0,q1,q2,q3,q4,q5,q6,q7⟩:=E1 p;simp only[Value.agg.injEq,Array.mk.injEq,List.cons.injEq,and_true]at ee;obtain⟨rfl,rfl,rfl,rfl,rfl,rfl,rfl,rfl⟩:=ee;exact q3
          have r14:∀p:nG V.heap.size V,p.w.cell? ⟨p1,o1+jj*8+4,none⟩=some (.bool g'):=fun p=>by obtain⟨_,_,_,_,_,_,_,_,ee,q0,q1,q2,q3,q4,q5,q6,q7⟩:=E1 p;simp only[Value.agg.injEq,Array.mk.injEq,List.cons.injEq,and_true]at ee;obtain⟨rfl,rfl,rfl,rfl,rfl,rfl,rfl,rfl⟩:=ee;exact q4
          have r15:∀p:nG V.heap.size V,p.w.cell? ⟨p1,o1+jj*8+5,none⟩=some (.string n'):=fun p=>by obtain⟨_,_,_,_,_,_,_,_,ee,q0,q1,q2,q3,q4,q5,q6,q7⟩:=E1 p;simp only[Value.agg.injEq,Array.mk.injEq,List.cons.injEq,and_true]at ee;obtain⟨rfl,rfl,rfl,rfl,rfl,rfl,rfl,rfl⟩:=ee;exact q5
          have r16:∀p:nG V.heap.size V,p.w.cell? ⟨p1,o1+jj*8+6,none⟩=some (.slice s1' sl' sc1'):=fun p=>by obtain⟨_,_,_,_,_,_,_,_,ee,q0,q1,q2,q3,q4,q5,q6,q7⟩:=E1 p;simp only[Value.agg.injEq,Array.mk.injEq,List.cons.injEq,and_true]at ee;obtain⟨rfl,rfl,rfl,rfl,rfl,rfl,rfl,rfl⟩:=ee;exact q6
          have r17:∀p:nG V.heap.size V,p.w.cell? ⟨p1,o1+jj*8+7,none⟩=some (.slice a1' si Lu):=fun p=>by obtain⟨_,_,_,_,_,_,_,_,ee,q0,q1,q2,q3,q4,q5,q6,q7⟩:=E1 p;simp only[Value.agg.injEq,Array.mk.injEq,List.cons.injEq,and_true]at ee;obtain⟨rfl,rfl,rfl,rfl,rfl,rfl,rfl,rfl⟩:=ee;exact q7
          have r20:∀p:nG V.heap.size V,p.w.cell? ⟨p2,o2+jj*8,none⟩=some (.int .i64 k'):=fun p=>by obtain⟨_,_,_,_,_,_,_,_,ee,q0,q1,q2,q3,q4,q5,q6,q7⟩:=E2 p;simp only[Value.agg.injEq,Array.mk.injEq,List.cons.injEq,and_true]at ee;obtain⟨rfl,rfl,rfl,rfl,rfl,rfl,rfl,rfl⟩:=ee;exact q0
          have r21:∀p:nG V.heap.size V,p.w.cell? ⟨p2,o2+jj*8+1,none⟩=some (.int .i64 m'):=fun p=>by obtain⟨_,_,_,_,_,_,_,_,ee,q0,q1,q2,q3,q4,q5,q6,q7⟩:=E2 p;simp only[Value.agg.injEq,Array.mk.injEq,List.cons.injEq,and_true]at ee;obtain⟨rfl,rfl,rfl,rfl,rfl,rfl,rfl,rfl⟩:=ee;exact q1
          have r22:∀p:nG V.heap.size V,p.w.cell? ⟨p2,o2+jj*8+2,none⟩=some (.int .i64 a'):=fun p=>by obtain⟨_,_,_,_,_,_,_,_,ee,q0,q1,q2,q3,q4,q5,q6,q7⟩:=E2 p;simp only[Value.agg.injEq,Array.mk.injEq,List.cons.injEq,and_true]at ee;obtain⟨rfl,rfl,rfl,rfl,rfl,rfl,rfl,rfl⟩:=ee;exact q2
          have r23:∀p:nG V.heap.size V,p.w.cell? ⟨p2,o2+jj*8+3,none⟩=some (.int .i64 b'):=fun p=>by obtain⟨_,_,_,_,_,_,_,_,ee,q0,q1,q2,q3,q4,q5,q6,q7⟩:=E2 p;simp only[Value.agg.injEq,Array.mk.injEq,List.cons.injEq,and_true]at ee;obtain⟨rfl,rfl,rfl,rfl,rfl,rfl,rfl,rfl⟩:=ee;exact q3
          have r24:∀p:nG V.heap.size V,p.w.cell? ⟨p2,o2+jj*8+4,none⟩=some (.bool g'):=fun p=>by obtain⟨_,_,_,_,_,_,_,_,ee,q0,q1,q2,q3,q4,q5,q6,q7⟩:=E2 p;simp only[Value.agg.injEq,Array.mk.injEq,List.cons.injEq,and_true]at ee;obtain⟨rfl,rfl,rfl,rfl,rfl,rfl,rfl,rfl⟩:=ee;exact q4
          have r25:∀p:nG V.heap.size V,p.w.cell? ⟨p2,o2+jj*8+5,none⟩=some (.string n'):=fun p=>by obtain⟨_,_,_,_,_,_,_,_,ee,q0,q1,q2,q3,q4,q5,q6,q7⟩:=E2 p;simp only[Value.agg.injEq,Array.mk.injEq,List.cons.injEq,and_true]at ee;obtain⟨rfl,rfl,rfl,rfl,rfl,rfl,rfl,rfl⟩:=ee;exact q5
          have r26:∀p:nG V.heap.size V,p.w.cell? ⟨p2,o2+jj*8+6,none⟩=some (.slice s2' sl' sc2'):=fun p=>by obtain⟨_,_,_,_,_,_,_,_,ee,q0,q1,q2,q3,q4,q5,q6,q7⟩:=E2 p;simp only[Value.agg.injEq,Array.mk.injEq,List.cons.injEq,and_true]at ee;obtain⟨rfl,rfl,rfl,rfl,rfl,rfl,rfl,rfl⟩:=ee;exact q6
          have r27:∀p:nG V.heap.size V,p.w.cell? ⟨p2,o2+jj*8+7,none⟩=some (.slice a2' si Lt):=fun p=>by obtain⟨_,_,_,_,_,_,_,_,ee,q0,q1,q2,q3,q4,q5,q6,q7⟩:=E2 p;simp only[Value.agg.injEq,Array.mk.injEq,List.cons.injEq,and_true]at ee;obtain⟨rfl,rfl,rfl,rfl,rfl,rfl,rfl,rfl⟩:=ee;exact q7
          clear E1 E2 e1 e2 v1 v2 CI CC hall h1 h2 oU ui HI hmem ht hT
          rw[HV]
          clear HV HQ'
          go_wp2
          refine iF V.heap.size V mixedS (by kernel_rfl) (Below.drew (Below.refl _ V)) ?_
          repeat (refine wpQuiet_step (fun K hK=>?_)
                  go_simp
                  first
                    |(refine hK _ ?_;clear hK K)
                    | (apply Exists.intro
                       refine⟨fun _=>?_,hK _ ?_⟩
                       (go_at_call 10;refine eP HCC.out _)
                       clear hK K))
          refine wpQuiet_nil ?_
          rintro _⟨p,rfl⟩
          have HP:=hd39 (HQV.out.on p.h)
          clear f7 g7 r10 r11 r12 r13 r14 r15 r16 r17 r20 r21 r22 r23 r24 r25 r26 r27 HQV HCC
          go_wp2
          go_roundw
          case rel=>exact⟨jj+1,by omega,by go_num,HP⟩
          case measure=>simp[intOf];omega
        · clear oU ui HI
          go_wp2
          go_ret
          exact⟨rfl,HQ'.out.1⟩
theorem rP:∀(N:Nat)(t:Nd)(v1 v2:Value)(w:World),t.sz≤N→NV w.heap.size w t v1→NV w.heap.size w t v2→Calls Tryz.prog 10 #[v1,v2] w fun e w'=>e=.returned (.bool true)∧Below w.heap.size w w':=by
 intro N
 induction N with
 |zero=>intro t v1 v2 w h;obtain⟨k,m,a,b,g,n,st,ks⟩:=t;rw[Nd.sz]at h;omega
 |succ N ih=>
  intro t v1 v2 w hN h1 h2
  obtain⟨k,m,a,b,g,n,st,ks,sa1,D7,yx,jr,rfl,rfl,_,_,hs1,hk1,hm1,_,hkv1⟩:=h1.open
  obtain⟨_,_,_,_,_,_,_,_,FO,FL,Ay,cap2,e,rfl,_,_,hs2,hk2,hm2,_,hkv2⟩:=h2.open
  cases e
  rw[Nd.sz]at hN
  unfold maxLen at*
  exact FN k m a b g n st ks sa1 FO _ D7 FL yx Ay _ jr cap2 w rfl rfl ⟨hs1.2.2.1,by omega⟩ ⟨hs2.2.2.1,by omega⟩ ⟨hk1,by omega⟩ ⟨hk2,by omega⟩ ⟨hs1.1,hs1.2.1⟩ ⟨hs2.1,hs2.2.1⟩ hkv1 hkv2 (fun t ht v1 v2 W g1 g2=>ih t v1 v2 W (by have:=dW ht;omega) g1 g2)
end Go.Proofs.YtgbkolonhddolaaGreatDoor.tre
