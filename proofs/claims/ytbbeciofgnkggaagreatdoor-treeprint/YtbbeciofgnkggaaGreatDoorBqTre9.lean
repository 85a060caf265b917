import Derived.Test.YtbbeciofgnkggaaGreatDoorBqTre1
import Derived.Test.YtbbeciofgnkggaaGreatDoorBqTre8
import Derived.Test.YtbbeciofgnkggaaGreatDoorBqNod1
import Derived.Test.YtbbeciofgnkggaaGreatDoorBqTre2
set_option linter.unusedSimpArgs false
set_option linter.unusedVariables false
set_option maxRecDepth 100000
set_option maxHeartbeats 8000000
namespace Go.Proofs.YtbbeciofgnkggaaGreatDoor.tre
open Go.RowKit nod
open rng(R RV ret_int ret_bool below_drewN info_parts own_below')
open tok(PEnv TX printL)
theorem cellsByte:Tryz.prog.cellsOf 5=1:=by kernel_rfl
theorem string_any(base g:Nat)(s:Wr)(w:World)(h:WrAt w base g s)(h0:s.text≠[]):
  Calls Tryz.prog 17 #[.pointer (some ⟨g,0,none⟩)] w fun e w'=>e=.returned (.string ⟨s.text.toArray⟩)∧Below base w w':=by
 obtain⟨hB,p,v,nv,hbk,_,hown,_⟩:=h
 have hl0:s.text.length≠0:=by simpa using h0
 obtain⟨gb,cap,cur,rfl,hbg,hg,hnc,hcm,hcs,htake⟩:∃gb cap cur,v=.slice (some ⟨gb,0,none⟩) s.text.length cap∧base≤gb∧w.heap[gb]?=some (.cells cur 5 (0,0))∧s.text.length≤cap∧cap≤maxLen∧cur.size=cap*1∧cur.toList.take (s.text.length*1)=Lib.byteCells s.text:=by
  rcases hown.2 with⟨_,hz⟩|⟨gb,cap,cur,hv,r⟩
  ·exact absurd hz hl0
  ·exact⟨gb,cap,cur,hv,r⟩
 have c1:w.drew.cell? ⟨g,1,none⟩=some (.slice (some ⟨gb,0,none⟩) s.text.length cap):=by
  have:w.drew.heap[g]?=some (.cells #[p,.slice (some ⟨gb,0,none⟩) s.text.length cap,.int .i64 s.room,.int .i64 s.depth,.int .i64 s.groups,nv] 51 (0,0)):=hbk
  rw[Lib.cell_of_heap this];rfl
 have hSD:(Builtin.unsafeSliceData_ #[47] 57 #[.slice (some ⟨gb,0,none⟩) s.text.length cap]).run Tryz.prog w.drew=.ok (.pointer (some ⟨gb,0,none⟩)) w.drew:=
  Lib.run_unsafeSliceData_row _ _ _ _ _ _ (by omega)
 have hUS:(Builtin.unsafeString_ #[57,3] 9 #[.pointer (some ⟨gb,0,none⟩),.int .i64 s.text.length]).run Tryz.prog w.drew=.ok (.string ⟨s.text.toArray⟩) (w.drew.freeze ⟨gb,0,none⟩ s.text.length):=by
  refine Lib.run_unsafeString_row w.drew 57 3 9 5 Tryz.underlying57 cellsByte gb cur.size (by have hg':w.drew.heap[gb]?=some (.cells cur 5 (0,0)):=hg;simp[World.shape?,hg']) s.text h0 (by omega) (by unfold maxLen at hcm;omega) ?_
  intro j x hx
  have:=hown.cells (g:=gb) rfl j (.int .u8 x.toNat) (by simp[Lib.byteCells,hx])
  exact this
 have hn:s.text.length≤9223372036854775807:=by unfold maxLen at hcm;omega
 have HBG:Hid (base≤gb):=hbg
 clear hown hbk hcs htake hg h0 hl0 hcm hB hnc hbg
 generalize(⟨s.text.toArray⟩:ByteArray)=X at*
 generalize s.text.length=n at*
 go_enter Tryz.func17,Tryz.ntmps17
 go_wp2
 go_region
 all_goals(try go_wp2;go_ret;exact⟨rfl,Lib.below_freeze (Below.drew (Below.refl base w)) (p:=⟨gb,0,none⟩) HBG.out _⟩)
end Go.Proofs.YtbbeciofgnkggaaGreatDoor.tre
namespace Go.Proofs.YtbbeciofgnkggaaGreatDoor.tre
open Go.RowKit nod
open rng(R RV ret_int ret_bool below_drewN info_parts own_below')
open tok(PEnv TX printL)
theorem string_nil(base g:Nat)(w:World)(c1:w.cell? ⟨g,1,none⟩=some (.slice none 0 0)):
  Calls Tryz.prog 17 #[.pointer (some ⟨g,0,none⟩)] w fun e w'=>e=.returned (.string ByteArray.empty)∧Below base w w':=by
 have c2:w.drew.cell? ⟨g,1,none⟩=some (.slice none 0 0):=c1
 have hSD:(Builtin.unsafeSliceData_ #[47] 57 #[.slice none 0 0]).run Tryz.prog w.drew=.ok (.pointer none) w.drew:=Lib.run_unsafeSliceData_nil _ _ _ _ _
 have hUS:(Builtin.unsafeString_ #[57,3] 9 #[.pointer none,.int .i64 0]).run Tryz.prog w.drew=.ok (.string ByteArray.empty) w.drew:=Lib.run_unsafeString_none _ _ _ _ _
 generalize ByteArray.empty=X at*
 go_enter Tryz.func17,Tryz.ntmps17
 go_wp2
 go_region
 all_goals(try go_wp2;go_ret;exact⟨rfl,Below.drew (Below.refl base w)⟩)
theorem string_cap(base g gb cap:Nat)(w:World)(c1:w.cell? ⟨g,1,none⟩=some (.slice (some ⟨gb,0,none⟩) 0 cap))(p:Option Addr)(hSD:(Builtin.unsafeSliceData_ #[47] 57 #[.slice (some ⟨gb,0,none⟩) 0 cap]).run Tryz.prog w.drew=.ok (.pointer p) w.drew):
  Calls Tryz.prog 17 #[.pointer (some ⟨g,0,none⟩)] w fun e w'=>e=.returned (.string ByteArray.empty)∧Below base w w':=by
 have c2:w.drew.cell? ⟨g,1,none⟩=some (.slice (some ⟨gb,0,none⟩) 0 cap):=c1
 have hUS:(Builtin.unsafeString_ #[57,3] 9 #[.pointer p,.int .i64 0]).run Tryz.prog w.drew=.ok (.string ByteArray.empty) w.drew:=Lib.run_unsafeString_none _ _ _ _ _
 generalize ByteArray.empty=X at*
 go_enter Tryz.func17,Tryz.ntmps17
 go_wp2
 go_region
 all_goals(try go_wp2;go_ret;exact⟨rfl,Below.drew (Below.refl base w)⟩)
theorem string_zero(base g gb:Nat)(w V:World)(c1:w.cell? ⟨g,1,none⟩=some (.slice (some ⟨gb,0,none⟩) 0 0))(p:Option Addr)(hSD:(Builtin.unsafeSliceData_ #[47] 57 #[.slice (some ⟨gb,0,none⟩) 0 0]).run Tryz.prog w.drew=.ok (.pointer p) V)(hV:V.cell? ⟨g,1,none⟩=some (.slice (some ⟨gb,0,none⟩) 0 0))(hb:Below base w V):
  Calls Tryz.prog 17 #[.pointer (some ⟨g,0,none⟩)] w fun e w'=>e=.returned (.string ByteArray.empty)∧Below base w w':=by
 have c2:w.drew.cell? ⟨g,1,none⟩=some (.slice (some ⟨gb,0,none⟩) 0 0):=c1
 have hUS:(Builtin.unsafeString_ #[57,3] 9 #[.pointer p,.int .i64 0]).run Tryz.prog V=.ok (.string ByteArray.empty) V:=Lib.run_unsafeString_none _ _ _ _ _
 generalize ByteArray.empty=X at*
 have HB:Hid (Below base w V):=hb
 clear hb
 go_enter Tryz.func17,Tryz.ntmps17
 go_wp2
 go_region
 all_goals(try go_wp2;go_ret;exact⟨rfl,HB.out⟩)
theorem str_any(base g:Nat)(s:Wr)(w:World)(h:WrAt w base g s):Calls Tryz.prog 17 #[.pointer (some ⟨g,0,none⟩)] w fun e w'=>e=.returned (.string ⟨s.text.toArray⟩)∧Below base w w':=by
 by_cases h0:s.text=[]
 ·obtain⟨hB,p,v,nv,hbk,_,hown,_⟩:=h
  rw[h0]
  have c1:w.cell? ⟨g,1,none⟩=some v:=by rw[Lib.cell_of_heap hbk];rfl
  rcases hown.2 with⟨rfl,_⟩|⟨gb,cap,cur,rfl,_,hg,_,_,hcs,_⟩
  ·exact string_nil base g w c1
  ·have hl:s.text.length=0:=by rw[h0];rfl
   rw[hl]at c1
   by_cases hc:cap=0
   ·subst hc
    have hsh:w.drew.shape? gb=some (5,cur.size):=by have hg':w.drew.heap[gb]?=some (.cells cur 5 (0,0)):=hg;simp[World.shape?,hg']
    have bA:Below w.heap.size w (w.drew.alloc (.view ⟨gb,0,none⟩ 5)):=(Below.drew (Below.refl _ w)).alloc (Nat.le_refl _) _
    have hgl:g<w.heap.size:=(Array.getElem?_eq_some_iff.1 hbk).1
    exact string_zero base g gb w _ c1 _ (Lib.run_unsafeSliceData_zero w.drew _ _ _ Tryz.underlying57 ⟨gb,0,none⟩ 0 (5,cur.size) hsh) ((bA.cell (p:=⟨g,1,none⟩) hgl).trans c1) (below_less bA (by omega))
   ·exact string_cap base g gb cap w c1 _ (Lib.run_unsafeSliceData_row _ _ _ _ _ _ hc)
 ·exact string_any base g s w h h0
/--A pattern as a text; none is empty. -/
def patB(o:Option (List UInt8)):ByteArray:=match o with|some l=>⟨l.toArray⟩|none=>ByteArray.empty
theorem pattern_any{W:World}{v:Value}{t:Nd}(N:Nat)(hN:t.sz≤N)(hs:shortN t)(E:PEnv W)(hw:Pw W)(hv:NV W.heap.size W t v):
  Calls Tryz.prog 13 #[v] W fun e w'=>e=.returned (.tuple #[.string (patB (patO N t)),.bool (patO N t).isSome])∧Below W.heap.size W w':=by
 have hB:ConP 16 (bodyO (partO N)) t:=by
  obtain⟨k',m',a',b',g',n',s',kk⟩:=t
  rw[Nd.sz]at hN
  rw[shortN]at hs
  refine con_body (fun y hy=>?_) (fun y hy z hzz=>?_)
  ·have:y.sz≤szL kk:=szL_mem hy
   exact con_part N y (by omega) (short_mem hs.2 hy)
  ·have h1:y.sz≤szL kk:=szL_mem hy
   have h2:=short_mem hs.2 hy
   obtain⟨k2,m2,a2,b2,g2,n2,s2,kk2⟩:=y
   rw[Nd.sz]at h1
   rw[shortN]at h2
   have h3:z.sz≤szL kk2:=szL_mem hzz
   exact con_part N z (by omega) (short_mem h2.2 hzz)
 have hv0:=hv
 unfold patO
 obtain⟨k,m,a,b,ng,n,st,ks,sa,sc,ao,cap,rfl,rfl,_⟩:=hv.open
 generalize st.length=sl at*
 generalize ks.length=nk at*
 generalize Nd.mk k m a b ng n st ks=T at*
 have HB:Hid (Below W.heap.size W ((W.alloc (.cells (n8 k m a b ng n sa sl sc ao nk cap) 25)).alloc (.cells #[.pointer none,.slice none 0 0,.int .i64 2000,.int .i64 0,.int .i64 0,.slice none 0 0] 51))):=below2 _ _ _
 have HC:Cx W ((W.alloc (.cells (n8 k m a b ng n sa sl sc ao nk cap) 25)).alloc (.cells #[.pointer none,.slice none 0 0,.int .i64 2000,.int .i64 0,.int .i64 0,.slice none 0 0] 51)) W.heap.size (W.heap.size+1) w00:=⟨⟨E,rfl,HB.out,⟨by omega,.pointer none,.slice none 0 0,.slice none 0 0,bk2,.inl rfl,World.ownsRow_nil _ _ _ _,World.ownsRow_nil _ _ _ _⟩,by decide,by decide⟩,gd00⟩
 have CB:=hB W _ _ _ _ _ hw HC hv0
 have CS:Hid (∀W' s,Cx W W' W.heap.size (W.heap.size+1) s→Calls Tryz.prog 17 #[.pointer (some ⟨W.heap.size+1,0,none⟩)] W' fun e w'=>e=.returned (.string ⟨s.text.toArray⟩)∧Below W.heap.size W w'):=fun W' s c=>(str_any _ _ s W' c.c.wr).mono fun e w'⟨h1,h2⟩=>⟨h1,c.c.bel.trans h2⟩
 cases hP:bodyO (partO N) w00 T with
 |none=>
  have C:=CB.no hP
  clear CB hB HC E hw hv hv0 hP CS
  go_enter Tryz.func13,Tryz.ntmps13
  go_wp2_with(go_at_call 16;refine C.mono ?_;rintro e w1⟨rfl,d⟩;have HK:Hid (Kt W.heap.size _ w1):=d;clear d)
  go_ret2
  exact⟨rfl,HB.out.trans HK.out.below⟩
 |some s'=>
  have C:=CB.ok hP
  have CS2:Hid (∀W',Cx W W' W.heap.size (W.heap.size+1) s'→Calls Tryz.prog 17 #[.pointer (some ⟨W.heap.size+1,0,none⟩)] W' fun e w'=>e=.returned (.string ⟨s'.text.toArray⟩)∧Below W.heap.size W w'):=fun W' c=>CS.out W' s' c
  show Calls Tryz.prog 13 _ W fun e w'=>e=.returned (.tuple #[.string ⟨s'.text.toArray⟩,.bool true])∧Below W.heap.size W w'
  generalize(⟨s'.text.toArray⟩:ByteArray)=X at*
  clear CB hB HC E hw hv hv0 hP CS
  go_enter Tryz.func13,Tryz.ntmps13
  go_wp2_with(first
   |(go_at_call 16;refine C.mono ?_;rintro e w1⟨rfl,d,d'⟩;have HR:Hid (Cx W w1 W.heap.size (W.heap.size+1) s'):=d;clear d d')
   |(go_at_call 17;refine(CS2.out _ HR.out).mono ?_;rintro e w2⟨rfl,d⟩;have HF:Hid (Below W.heap.size W w2):=d;clear d))
  go_ret2
  exact⟨rfl,HF.out⟩
theorem tprint_any{W:World}{v:Value}{t:Nd}(N:Nat)(hN:t.sz≤N)(hs:shortN t)(E:PEnv W)(hw:Pw W)(hv:NV W.heap.size W t v):
  Calls Tryz.prog 7 #[v] W fun e w'=>e=.returned (.tuple #[.string (patB (patO N t)),.int .i64 (if(patO N t).isSome then 0 else 1)])∧Below W.heap.size W w':=by
 obtain⟨k,m,a,b,ng,n,st,ks,sa,sc,ao,cap,rfl,rfl,_⟩:=hv.open
 generalize st.length=sl at*
 generalize ks.length=nk at*
 generalize Nd.mk k m a b ng n st ks=T at*
 have HB:Hid (Below W.heap.size W (W.alloc (.cells (n8 k m a b ng n sa sl sc ao nk cap) 25))):=(Below.refl _ W).alloc (Nat.le_refl _) _
 have CP:=pattern_any N hN hs (E.below HB.out) (hw.on HB.out) ((hv.keep HB.out).wide HB.out.size)
 cases hP:patO N T with
 |none=>
  rw[hP]at CP
  have CP:Calls Tryz.prog 13 _ _ fun e w'=>e=.returned (.tuple #[.string ByteArray.empty,.bool false])∧_:=CP
  clear hv E hw hP
  show Calls Tryz.prog 7 _ W fun e w'=>e=.returned (.tuple #[.string ByteArray.empty,.int .i64 1])∧Below W.heap.size W w'
  go_enter Tryz.func7,Tryz.ntmps7
  go_wp2_with(go_at_call 13;refine CP.mono ?_;rintro e w1⟨rfl,d⟩;have HF:Hid (Below W.heap.size W w1):=HB.out.trans (below_less d (by simp));clear d)
  go_ret2
  exact⟨rfl,HF.out⟩
 |some l=>
  rw[hP]at CP
  have CP:Calls Tryz.prog 13 _ _ fun e w'=>e=.returned (.tuple #[.string ⟨l.toArray⟩,.bool true])∧_:=CP
  clear hv E hw hP
  show Calls Tryz.prog 7 _ W fun e w'=>e=.returned (.tuple #[.string ⟨l.toArray⟩,.int .i64 0])∧Below W.heap.size W w'
  generalize(⟨l.toArray⟩:ByteArray)=X at*
  go_enter Tryz.func7,Tryz.ntmps7
  go_wp2_with(go_at_call 13;refine CP.mono ?_;rintro e w1⟨rfl,d⟩;have HF:Hid (Below W.heap.size W w1):=HB.out.trans (below_less d (by simp));clear d)
  go_ret2
  exact⟨rfl,HF.out⟩
theorem can_any{W:World}{v:Value}{t:Nd}(N:Nat)(hN:t.sz≤N)(hs:shortN t)(E:PEnv W)(hw:Pw W)(hv:NV W.heap.size W t v):
  Calls Tryz.prog 9 #[v] W fun e w'=>e=.returned (.bool (patO N t).isSome)∧Below W.heap.size W w':=by
 obtain⟨k,m,a,b,ng,n,st,ks,sa,sc,ao,cap,rfl,rfl,_⟩:=hv.open
 generalize st.length=sl at*
 generalize ks.length=nk at*
 generalize Nd.mk k m a b ng n st ks=T at*
 have HB:Hid (Below W.heap.size W (W.alloc (.cells (n8 k m a b ng n sa sl sc ao nk cap) 25))):=(Below.refl _ W).alloc (Nat.le_refl _) _
 have CP:=pattern_any N hN hs (E.below HB.out) (hw.on HB.out) ((hv.keep HB.out).wide HB.out.size)
 cases hP:patO N T with
 |none=>
  rw[hP]at CP
  have CP:Calls Tryz.prog 13 _ _ fun e w'=>e=.returned (.tuple #[.string ByteArray.empty,.bool false])∧_:=CP
  clear hv E hw hP
  show Calls Tryz.prog 9 _ W fun e w'=>e=.returned (.bool false)∧Below W.heap.size W w'
  go_enter Tryz.func9,Tryz.ntmps9
  go_wp2_with(go_at_call 13;refine CP.mono ?_;rintro e w1⟨rfl,d⟩;have HF:Hid (Below W.heap.size W w1):=HB.out.trans (below_less d (by simp));clear d)
  go_ret
  exact⟨rfl,HF.out⟩
 |some l=>
  rw[hP]at CP
  have CP:Calls Tryz.prog 13 _ _ fun e w'=>e=.returned (.tuple #[.string ⟨l.toArray⟩,.bool true])∧_:=CP
  clear hv E hw hP
  show Calls Tryz.prog 9 _ W fun e w'=>e=.returned (.bool true)∧Below W.heap.size W w'
  generalize(⟨l.toArray⟩:ByteArray)=X at*
  go_enter Tryz.func9,Tryz.ntmps9
  go_wp2_with(go_at_call 13;refine CP.mono ?_;rintro e w1⟨rfl,d⟩;have HF:Hid (Below W.heap.size W w1):=HB.out.trans (below_less d (by simp));clear d)
  go_ret
  exact⟨rfl,HF.out⟩
def ndDot:Nd:=.mk 2 0 0 0 false ByteArray.empty [] []
def ndChr:Nd:=.mk 1 0 97 0 false ByteArray.empty [] []
def ndRep:Nd:=.mk 8 0 1 (-1) false ByteArray.empty [] [ndDot]
def ndAwk:Nd:=.mk 6 0 0 0 false ByteArray.empty [] [ndChr,ndRep]
theorem awk_pat:patO 4 ndAwk=some [97,46,43]:=by decide+kernel
theorem awk_sz:ndAwk.sz≤4:=by decide+kernel
theorem awk_short:shortN ndAwk:=by
 have e:ByteArray.empty.size≤140737488355327:=by decide
 simp only[ndAwk,ndChr,ndRep,ndDot,shortN,shortL]
 exact⟨e,⟨e,trivial⟩,⟨e,⟨e,trivial⟩,trivial⟩,trivial⟩
theorem xa_is:(⟨#[97,46,43]⟩:ByteArray).toList=[97,46,43]:=by rw[Lib.toList_data]
theorem awk_any(w:World)(E:PEnv w)(hw:Pw w):Calls Tryz.prog 5 #[] w fun e w'=>e=.returned (.bool true)∧Below w.heap.size w w':=by
 have HB:Hid (Below w.heap.size w ((w.alloc (.cells (n8 2 0 0 0 false ByteArray.empty none 0 0 none 0 0) 25)).alloc (.cells #[.int .i64 1,.int .i64 0,.int .i64 97,.int .i64 0,.bool false,.string ByteArray.empty,.slice none 0 0,.slice none 0 0,.int .i64 8,.int .i64 0,.int .i64 1,.int .i64 (-1),.bool false,.string ByteArray.empty,.slice none 0 0,.slice (some ⟨w.heap.size,0,none⟩) 1 1] 25))):=below2 _ _ _
 have i0:∀x:Int,-100≤x→x≤100→I64 x:=fun x h1 h2=>by unfold I64;omega
 have e0:ByteArray.empty.size≤maxLen:=by decide
 have h1:NV w.heap.size w ndDot (.agg (n8 2 0 0 0 false ByteArray.empty none 0 0 none 0 0)):=nv_leaf _ _ 2 0 0 0 false ByteArray.empty (i0 _ (by omega) (by omega)) (i0 _ (by omega) (by omega)) (i0 _ (by omega) (by omega)) (i0 _ (by omega) (by omega)) e0
 have k1:=kv_one 25 h1 (Nat.le_refl _)
 have h2:NV (w.heap.size+1) (w.alloc (.cells (n8 2 0 0 0 false ByteArray.empty none 0 0 none 0 0) 25)) ndRep (.agg (n8 8 0 1 (-1) false ByteArray.empty none 0 0 (some ⟨w.heap.size,0,none⟩) 1 1)):=NV.shut (s:=[]) (ks:=[ndDot]) (cap:=1) ⟨i0 _ (by omega) (by omega),i0 _ (by omega) (by omega),i0 _ (by omega) (by omega),i0 _ (by omega) (by omega)⟩ e0 ⟨.inl rfl,fun x e=>(by cases e),by simp,by simp,fun _=>rfl⟩ ⟨by simp,by decide,fun e=>(by cases e)⟩ k1
 have h3:NV (w.heap.size+1) (w.alloc (.cells (n8 2 0 0 0 false ByteArray.empty none 0 0 none 0 0) 25)) ndChr (.agg (n8 1 0 97 0 false ByteArray.empty none 0 0 none 0 0)):=nv_leaf _ _ 1 0 97 0 false ByteArray.empty (i0 _ (by omega) (by omega)) (i0 _ (by omega) (by omega)) (i0 _ (by omega) (by omega)) (i0 _ (by omega) (by omega)) e0
 have k2:=kv_two 25 h3 h2 (by simp)
 have sz1:(w.alloc (.cells (n8 2 0 0 0 false ByteArray.empty none 0 0 none 0 0) 25)).heap.size=w.heap.size+1:=by simp
 rw[sz1]at k2
 have h4:NV (w.heap.size+1+1) ((w.alloc (.cells (n8 2 0 0 0 false ByteArray.empty none 0 0 none 0 0) 25)).alloc (.cells #[.int .i64 1,.int .i64 0,.int .i64 97,.int .i64 0,.bool false,.string ByteArray.empty,.slice none 0 0,.slice none 0 0,.int .i64 8,.int .i64 0,.int .i64 1,.int .i64 (-1),.bool false,.string ByteArray.empty,.slice none 0 0,.slice (some ⟨w.heap.size,0,none⟩) 1 1] 25)) ndAwk (.agg (n8 6 0 0 0 false ByteArray.empty none 0 0 (some ⟨w.heap.size+1,0,none⟩) 2 2)):=NV.shut (s:=[]) (ks:=[ndChr,ndRep]) (cap:=2) ⟨i0 _ (by omega) (by omega),i0 _ (by omega) (by omega),i0 _ (by omega) (by omega),i0 _ (by omega) (by omega)⟩ e0 ⟨.inl rfl,fun x e=>(by cases e),by simp,by simp,fun _=>rfl⟩ ⟨by simp,by decide,fun e=>(by cases e)⟩ k2
 have sz2:((w.alloc (.cells (n8 2 0 0 0 false ByteArray.empty none 0 0 none 0 0) 25)).alloc (.cells #[.int .i64 1,.int .i64 0,.int .i64 97,.int .i64 0,.bool false,.string ByteArray.empty,.slice none 0 0,.slice none 0 0,.int .i64 8,.int .i64 0,.int .i64 1,.int .i64 (-1),.bool false,.string ByteArray.empty,.slice none 0 0,.slice (some ⟨w.heap.size,0,none⟩) 1 1] 25)).heap.size=w.heap.size+1+1:=by simp
 have C:=tprint_any 4 awk_sz awk_short (E.below HB.out) (hw.on HB.out) (sz2▸h4)
 rw[awk_pat]at C
 have C:Calls Tryz.prog 7 _ _ fun e w'=>e=.returned (.tuple #[.string ⟨#[97,46,43]⟩,.int .i64 0])∧_:=C
 have hx:=xa_is
 generalize(⟨#[97,46,43]⟩:ByteArray)=X at*
 clear h1 h2 h3 h4 k1 k2 sz1 sz2 E hw i0 e0
 go_enter Tryz.func5,Tryz.ntmps5
 go_wp2_with(go_at_call 7;refine C.mono ?_;rintro e w1⟨rfl,d⟩;have HF:Hid (Below w.heap.size w w1):=HB.out.trans (below_less d (by simp;omega));clear d)
 go_ret
 exact⟨rfl,HF.out⟩
end Go.Proofs.YtbbeciofgnkggaaGreatDoor.tre
namespace Go.Proofs.YtbbeciofgnkggaaGreatDoor.tre
open Go.RowKit nod
open rng(R RV ret_int ret_bool below_drewN info_parts own_below')
theorem mixedS:Tryz.prog.follows .mixedOrders=true:=by kernel_rfl
/--From w on nothing has changed, and the two nodes that came in lie behind it. -/
def Q2n(w:World)(b1 b2:Array Value)(w':World):Prop:=Below w.heap.size w w'∧Bk w' w.heap.size b1 25∧Bk w' (w.heap.size+1) b2 25
theorem Q2n.on{w w' w'':World}{b1 b2:Array Value}(q:Q2n w b1 b2 w')(d:Below w'.heap.size w' w''):Q2n w b1 b2 w'':=⟨q.1.trans (below_less d q.1.size),q.2.1.on d,q.2.2.on d⟩
theorem rv_some{w:World}{sa:Option Addr}{s:List R}(h:RV w sa s)(h0:0<s.length):∃b off,sa=some ⟨b,off,none⟩∧∀(i:Nat)p,s[i]?=some p→w.cell? ⟨b,off+i*2,none⟩=some (.int .i64 p.1)∧w.cell? ⟨b,off+i*2+1,none⟩=some (.int .i64 p.2):=by
 rcases h with rfl|⟨b,off,e,h⟩
 ·simp at h0
 ·exact⟨b,off,e,fun i p hi=>h i p hi⟩
/--Two readings of one kid. -/
theorem kid_two{B:Nat}{w:World}{b1 o1 b2 o2 i:Nat}{ks:List Nd}{t:Nd}(h1:KAt B w b1 o1 ks)(h2:KAt B w b2 o2 ks)(hi:ks[i]?=some t):∃k m a b g n s kk s1 c1 a1 d1 s2 c2 a2 d2,t=.mk k m a b g n s kk∧
  At8 w b1 (o1+i*8) (.agg (n8 k m a b g n s1 s.length c1 a1 kk.length d1))∧At8 w b2 (o2+i*8) (.agg (n8 k m a b g n s2 s.length c2 a2 kk.length d2))∧
  NV B w t (.agg (n8 k m a b g n s1 s.length c1 a1 kk.length d1))∧NV B w t (.agg (n8 k m a b g n s2 s.length c2 a2 kk.length d2)):=by
 obtain⟨v1,p1,q1⟩:=h1.2 i t hi
 obtain⟨v2,p2,q2⟩:=h2.2 i t hi
 obtain⟨k,m,a,b,g,n,s,kk,s1,c1,a1,d1,rfl,rfl,_⟩:=q1.open
 obtain⟨_,_,_,_,_,_,_,_,s2,c2,a2,d2,e,rfl,_⟩:=q2.open
 cases e
 exact⟨k,m,a,b,g,n,s,kk,s1,c1,a1,d1,s2,c2,a2,d2,rfl,p1,p2,q1,q2⟩
theorem same_step(k m a b:Int)(ng:Bool)(n:ByteArray)(st:List R)(ks:List Nd)(sa1 sa2:Option Addr)(sl sc1 sc2:Nat)(ao1 ao2:Option Addr)(nk cap1 cap2:Nat)(w:World)(HLS:Hid (st.length=sl))(HL:Hid (ks.length=nk))(hsc1:sl≤sc1∧sc1≤9223372036854775807)(hsc2:sl≤sc2∧sc2≤9223372036854775807)(hc1:nk≤cap1∧cap1≤9223372036854775807)(hc2:nk≤cap2∧cap2≤9223372036854775807)
    (HR1:Hid (RV w sa1 st∧∀x,sa1=some x→st≠[]→x.block<w.heap.size))(HR2:Hid (RV w sa2 st∧∀x,sa2=some x→st≠[]→x.block<w.heap.size))(HK1:Hid (KV w.heap.size w ao1 ks))(HK2:Hid (KV w.heap.size w ao2 ks))
    (HI:Hid (∀t∈ks,∀v1 v2 W,NV W.heap.size W t v1→NV W.heap.size W t v2→Calls Tryz.prog 11 #[v1,v2] W fun e w'=>e=.returned (.bool true)∧Below W.heap.size W w')):
    Calls Tryz.prog 11 #[.agg (n8 k m a b ng n sa1 sl sc1 ao1 nk cap1),.agg (n8 k m a b ng n sa2 sl sc2 ao2 nk cap2)] w fun e w'=>e=.returned (.bool true)∧Below w.heap.size w w':=by
  have b1:Bk ((w.alloc (.cells (n8 k m a b ng n sa1 sl sc1 ao1 nk cap1) 25)).alloc (.cells (n8 k m a b ng n sa2 sl sc2 ao2 nk cap2) 25)) w.heap.size (n8 k m a b ng n sa1 sl sc1 ao1 nk cap1) 25:=(Bk.new w _ _).past _
  have HS:Hid (Q2n w (n8 k m a b ng n sa1 sl sc1 ao1 nk cap1) (n8 k m a b ng n sa2 sl sc2 ao2 nk cap2) ((w.alloc (.cells (n8 k m a b ng n sa1 sl sc1 ao1 nk cap1) 25)).alloc (.cells (n8 k m a b ng n sa2 sl sc2 ao2 nk cap2) 25))):=⟨below2 _ _ _,b1,bk2⟩
  have es:(n.toList==n.toList)=true:=by simp
  clear b1
  go_enter Tryz.func11,Tryz.ntmps11
  go_wp2
  go_loopw[68](fun i wr=>∃(j:Nat),j≤sl∧i=.int .i64 j∧Hid (Q2n w (n8 k m a b ng n sa1 sl sc1 ao1 nk cap1) (n8 k m a b ng n sa2 sl sc2 ao2 nk cap2) wr))(fun i _=>sl-(intOf i).toNat)
  case atStart=>exact⟨0,by omega,rfl,HS⟩
  case round=>
    obtain⟨j,hj,rfl,HQ⟩:=hrel
    clear HS
    obtain⟨x0,x1,x2,x3,x4,x5,x6,x7⟩:=Bk.c8 HQ.out.2.1
    obtain⟨y0,y1,y2,y3,y4,y5,y6,y7⟩:=Bk.c8 HQ.out.2.2
    by_cases hlt:j<sl
    · obtain⟨pp,hpp⟩:=getX HLS.out hlt
      have hne:st≠[]:=by intro e;rw[e]at hpp;simp at hpp
      obtain⟨p1,o1,rfl,hr1⟩:=rv_some HR1.out.1 (by have:=HLS.out;omega)
      obtain⟨p2,o2,rfl,hr2⟩:=rv_some HR2.out.1 (by have:=HLS.out;omega)
      have q1:=HR1.out.2 _ rfl hne
      have q2:=HR2.out.2 _ rfl hne
      obtain⟨z1,z2⟩:=hr1 j pp hpp
      obtain⟨z3,z4⟩:=hr2 j pp hpp
      have u1:=(HQ.out.1.cell (p:=⟨p1,o1+j*2,none⟩) q1).trans z1
      have u2:=(HQ.out.1.cell (p:=⟨p1,o1+j*2+1,none⟩) q1).trans z2
      have u3:=(HQ.out.1.cell (p:=⟨p2,o2+j*2,none⟩) q2).trans z3
      have u4:=(HQ.out.1.cell (p:=⟨p2,o2+j*2+1,none⟩) q2).trans z4
      obtain⟨P1,P2⟩:=pp
      simp only[]at u1 u2 u3 u4
      clear z1 z2 z3 z4 hr1 hr2 hpp hne HK1 HK2 HI HR1 HR2
      go_wp2
      go_quiet(fail)
      go_wp2
      go_roundw
      case rel=>exact⟨j+1,by omega,by go_num,HQ.out.on (below_drewN (Below.refl _ _) _)⟩
      case measure=>simp[intOf];omega
    · clear HR1 HR2
      go_wp2
      go_loopw[86](fun i wr'=>∃(j:Nat),j≤nk∧i=.int .i64 j∧Hid (Q2n w (n8 k m a b ng n sa1 sl sc1 ao1 nk cap1) (n8 k m a b ng n sa2 sl sc2 ao2 nk cap2) wr'))(fun i _=>nk-(intOf i).toNat)
      case atStart=>exact⟨0,by omega,rfl,HQ⟩
      case round=>
        obtain⟨jj,hjj,rfl,HQ'⟩:=hrel
        clear HQ x0 x1 x2 x3 x4 x5 x6 x7 y0 y1 y2 y3 y4 y5 y6 y7
        by_cases hlt':jj<nk
        · obtain⟨t,ht⟩:=getX HL.out hlt'
          have hmem:=List.mem_of_getElem? ht
          obtain⟨p1,o1,rfl,h1⟩:=HK1.out.some (by have:=HL.out;omega)
          obtain⟨p2,o2,rfl,h2⟩:=HK2.out.some (by have:=HL.out;omega)
          have hp1:=h1.1
          have hp2:=h2.1
          obtain⟨k',m',a',b',g',n',s',kk,s1',sc1',a1',cap1',s2',sc2',a2',cap2',rfl,e1,e2,v1,v2⟩:=kid_two h1 h2 ht
          have CI:=HI.out _ hmem
          obtain⟨T,hT⟩:∃T,Nd.mk k' m' a' b' g' n' s' kk=T:=⟨_,rfl⟩
          rw[hT]at v1 v2 CI
          generalize s'.length=sl' at*
          generalize kk.length=nk' at*
          obtain⟨V,HV⟩:∃V,wr=V:=⟨_,rfl⟩
          have HQV:Hid (Q2n w (n8 k m a b ng n sa1 sl sc1 (some ⟨p1,o1,none⟩) nk cap1) (n8 k m a b ng n sa2 sl sc2 (some ⟨p2,o2,none⟩) nk cap2) V):=HV▸HQ'
          have CC:∀W,Below V.heap.size V W→Calls Tryz.prog 11 #[.agg (n8 k' m' a' b' g' n' s1' sl' sc1' a1' nk' cap1'),.agg (n8 k' m' a' b' g' n' s2' sl' sc2' a2' nk' cap2')] W fun e w'=>e=.returned (.bool true)∧Below V.heap.size V w':=fun W hW=>by
            have hb:=HQV.out.1.trans (below_less hW HQV.out.1.size)
            exact(CI _ _ W ((v1.keep hb).wide hb.size) ((v2.keep hb).wide hb.size)).mono fun e w'⟨h1,h2⟩=>⟨h1,hW.trans (below_less h2 hW.size)⟩
          have HCC:Hid _:=CC
          have hall:∀p:Abv V.heap.size V,(Q2n w (n8 k m a b ng n sa1 sl sc1 (some ⟨p1,o1,none⟩) nk cap1) (n8 k m a b ng n sa2 sl sc2 (some ⟨p2,o2,none⟩) nk cap2) p.w):=fun p=>HQV.out.on p.h
          have f7:∀p:Abv V.heap.size V,p.w.cell? ⟨w.heap.size,7,none⟩=some (.slice (some ⟨p1,o1,none⟩) nk cap1):=fun p=>(hall p).2.1.cell 7 rfl
          have g7:∀p:Abv V.heap.size V,p.w.cell? ⟨w.heap.size+1,7,none⟩=some (.slice (some ⟨p2,o2,none⟩) nk cap2):=fun p=>(hall p).2.2.cell 7 rfl
          have E1:∀p:Abv V.heap.size V,At8 p.w p1 (o1+jj*8) (.agg (n8 k' m' a' b' g' n' s1' sl' sc1' a1' nk' cap1')):=fun p=>e1.below (hall p).1 hp1
          have E2:∀p:Abv V.heap.size V,At8 p.w p2 (o2+jj*8) (.agg (n8 k' m' a' b' g' n' s2' sl' sc2' a2' nk' cap2')):=fun p=>e2.below (hall p).1 hp2
          have r10:∀p:Abv V.heap.size V,p.w.cell? ⟨p1,o1+jj*8,none⟩=some (.int .i64 k'):=fun p=>by obtain⟨_,_,_,_,_,_,_,_,ee,q0,q1,q2,q3,q4,q5,q6,q7⟩:=E1 p;simp only[Value.agg.injEq,Array.mk.injEq,List.cons.injEq,and_true]at ee;obtain⟨rfl,rfl,rfl,rfl,rfl,rfl,rfl,rfl⟩:=ee;exact q0
          have r11:∀p:Abv V.heap.size V,p.w.cell? ⟨p1,o1+jj*8+1,none⟩=some (.int .i64 m'):=fun p=>by obtain⟨_,_,_,_,_,_,_,_,ee,q0,q1,q2,q3,q4,q5,q6,q7⟩:=E1 p;simp only[Value.agg.injEq,Array.mk.injEq,List.cons.injEq,and_true]at ee;obtain⟨rfl,rfl,rfl,rfl,rfl,rfl,rfl,rfl⟩:=ee;exact q1
          have r12:∀p:Abv V.heap.size V,p.w.cell? ⟨p1,o1+jj*8+2,none⟩=some (.int .i64 a'):=fun p=>by obtain⟨_,_,_,_,_,_,_,_,ee,q0,q1,q2,q3,q4,q5,q6,q7⟩:=E1 p;simp only[Value.agg.injEq,Array.mk.injEq,List.cons.injEq,and_true]at ee;obtain⟨rfl,rfl,rfl,rfl,rfl,rfl,rfl,rfl⟩:=ee;exact q2
          have r13:∀p:Abv V.heap.size V,p.w.cell? ⟨p1,o1+jj*8+3,none⟩=some (.int .i64 b'):=fun p=>by obtain⟨_,_,_,_,_,_,_,_,ee,q0,q1,q2,q3,q4,q5,q6,q7⟩:=E1 p;simp only[Value.agg.injEq,Array.mk.injEq,List.cons.injEq,and_true]at ee;obtain⟨rfl,rfl,rfl,rfl,rfl,rfl,rfl,rfl⟩:=ee;exact q3
          have r14:∀p:Abv V.heap.size V,p.w.cell? ⟨p1,o1+jj*8+4,none⟩=some (.bool g'):=fun p=>by obtain⟨_,_,_,_,_,_,_,_,ee,q0,q1,q2,q3,q4,q5,q6,q7⟩:=E1 p;simp only[Value.agg.injEq,Array.mk.injEq,List.cons.injEq,and_true]at ee;obtain⟨rfl,rfl,rfl,rfl,rfl,rfl,rfl,rfl⟩:=ee;exact q4
          have r15:∀p:Abv V.heap.size V,p.w.cell? ⟨p1,o1+jj*8+5,none⟩=some (.string n'):=fun p=>by obtain⟨_,_,_,_,_,_,_,_,ee,q0,q1,q2,q3,q4,q5,q6,q7⟩:=E1 p;simp only[Value.agg.injEq,Array.mk.injEq,List.cons.injEq,and_true]at ee;obtain⟨rfl,rfl,rfl,rfl,rfl,rfl,rfl,rfl⟩:=ee;exact q5
          have r16:∀p:Abv V.heap.size V,p.w.cell? ⟨p1,o1+jj*8+6,none⟩=some (.slice s1' sl' sc1'):=fun p=>by obtain⟨_,_,_,_,_,_,_,_,ee,q0,q1,q2,q3,q4,q5,q6,q7⟩:=E1 p;simp only[Value.agg.injEq,Array.mk.injEq,List.cons.injEq,and_true]at ee;obtain⟨rfl,rfl,rfl,rfl,rfl,rfl,rfl,rfl⟩:=ee;exact q6
          have r17:∀p:Abv V.heap.size V,p.w.cell? ⟨p1,o1+jj*8+7,none⟩=some (.slice a1' nk' cap1'):=fun p=>by obtain⟨_,_,_,_,_,_,_,_,ee,q0,q1,q2,q3,q4,q5,q6,q7⟩:=E1 p;simp only[Value.agg.injEq,Array.mk.injEq,List.cons.injEq,and_true]at ee;obtain⟨rfl,rfl,rfl,rfl,rfl,rfl,rfl,rfl⟩:=ee;exact q7
          have r20:∀p:Abv V.heap.size V,p.w.cell? ⟨p2,o2+jj*8,none⟩=some (.int .i64 k'):=fun p=>by obtain⟨_,_,_,_,_,_,_,_,ee,q0,q1,q2,q3,q4,q5,q6,q7⟩:=E2 p;simp only[Value.agg.injEq,Array.mk.injEq,List.cons.injEq,and_true]at ee;obtain⟨rfl,rfl,rfl,rfl,rfl,rfl,rfl,rfl⟩:=ee;exact q0
          have r21:∀p:Abv V.heap.size V,p.w.cell? ⟨p2,o2+jj*8+1,none⟩=some (.int .i64 m'):=fun p=>by obtain⟨_,_,_,_,_,_,_,_,ee,q0,q1,q2,q3,q4,q5,q6,q7⟩:=E2 p;simp only[Value.agg.injEq,Array.mk.injEq,List.cons.injEq,and_true]at ee;obtain⟨rfl,rfl,rfl,rfl,rfl,rfl,rfl,rfl⟩:=ee;exact q1
          have r22:∀p:Abv V.heap.size V,p.w.cell? ⟨p2,o2+jj*8+2,none⟩=some (.int .i64 a'):=fun p=>by obtain⟨_,_,_,_,_,_,_,_,ee,q0,q1,q2,q3,q4,q5,q6,q7⟩:=E2 p;simp only[Value.agg.injEq,Array.mk.injEq,List.cons.injEq,and_true]at ee;obtain⟨rfl,rfl,rfl,rfl,rfl,rfl,rfl,rfl⟩:=ee;exact q2
          have r23:∀p:Abv V.heap.size V,p.w.cell? ⟨p2,o2+jj*8+3,none⟩=some (.int .i64 b'):=fun p=>by obtain⟨_,_,_,_,_,_,_,_,ee,q0,q1,q2,q3,q4,q5,q6,q7⟩:=E2 p;simp only[Value.agg.injEq,Array.mk.injEq,List.cons.injEq,and_true]at ee;obtain⟨rfl,rfl,rfl,rfl,rfl,rfl,rfl,rfl⟩:=ee;exact q3
          have r24:∀p:Abv V.heap.size V,p.w.cell? ⟨p2,o2+jj*8+4,none⟩=some (.bool g'):=fun p=>by obtain⟨_,_,_,_,_,_,_,_,ee,q0,q1,q2,q3,q4,q5,q6,q7⟩:=E2 p;simp only[Value.agg.injEq,Array.mk.injEq,List.cons.injEq,and_true]at ee;obtain⟨rfl,rfl,rfl,rfl,rfl,rfl,rfl,rfl⟩:=ee;exact q4
          have r25:∀p:Abv V.heap.size V,p.w.cell? ⟨p2,o2+jj*8+5,none⟩=some (.string n'):=fun p=>by obtain⟨_,_,_,_,_,_,_,_,ee,q0,q1,q2,q3,q4,q5,q6,q7⟩:=E2 p;simp only[Value.agg.injEq,Array.mk.injEq,List.cons.injEq,and_true]at ee;obtain⟨rfl,rfl,rfl,rfl,rfl,rfl,rfl,rfl⟩:=ee;exact q5
          have r26:∀p:Abv V.heap.size V,p.w.cell? ⟨p2,o2+jj*8+6,none⟩=some (.slice s2' sl' sc2'):=fun p=>by obtain⟨_,_,_,_,_,_,_,_,ee,q0,q1,q2,q3,q4,q5,q6,q7⟩:=E2 p;simp only[Value.agg.injEq,Array.mk.injEq,List.cons.injEq,and_true]at ee;obtain⟨rfl,rfl,rfl,rfl,rfl,rfl,rfl,rfl⟩:=ee;exact q6
          have r27:∀p:Abv V.heap.size V,p.w.cell? ⟨p2,o2+jj*8+7,none⟩=some (.slice a2' nk' cap2'):=fun p=>by obtain⟨_,_,_,_,_,_,_,_,ee,q0,q1,q2,q3,q4,q5,q6,q7⟩:=E2 p;simp only[Value.agg.injEq,Array.mk.injEq,List.cons.injEq,and_true]at ee;obtain⟨rfl,rfl,rfl,rfl,rfl,rfl,rfl,rfl⟩:=ee;exact q7
          clear E1 E2 e1 e2 v1 v2 CI CC hall h1 h2 HK1 HK2 HI hmem ht hT
          rw[HV]
          clear HV HQ'
          go_wp2
          refine region_above V.heap.size V mixedS (by kernel_rfl) (Below.drew (Below.refl _ V)) ?_
          repeat (refine wpQuiet_step (fun K hK=>?_)
                  go_simp
                  first
                    |(refine hK _ ?_;clear hK K)
                    | (apply Exists.intro
                       refine⟨fun _=>?_,hK _ ?_⟩
                       (go_at_call 11;refine calls_above HCC.out _)
                       clear hK K))
          refine wpQuiet_nil ?_
          rintro _⟨p,rfl⟩
          have HP:Hid (Q2n w (n8 k m a b ng n sa1 sl sc1 (some ⟨p1,o1,none⟩) nk cap1) (n8 k m a b ng n sa2 sl sc2 (some ⟨p2,o2,none⟩) nk cap2) p.w):=HQV.out.on p.h
          clear f7 g7 r10 r11 r12 r13 r14 r15 r16 r17 r20 r21 r22 r23 r24 r25 r26 r27 HQV HCC
          go_wp2
          go_roundw
          case rel=>exact⟨jj+1,by omega,by go_num,HP⟩
          case measure=>simp[intOf];omega
        · clear HK1 HK2 HI
          go_wp2
          go_ret
          exact⟨rfl,HQ'.out.1⟩
theorem same_any:∀(N:Nat)(t:Nd)(v1 v2:Value)(w:World),t.sz≤N→NV w.heap.size w t v1→NV w.heap.size w t v2→Calls Tryz.prog 11 #[v1,v2] w fun e w'=>e=.returned (.bool true)∧Below w.heap.size w w':=by
 intro N
 induction N with
 |zero=>intro t v1 v2 w h;obtain⟨k,m,a,b,g,n,st,ks⟩:=t;rw[Nd.sz]at h;omega
 |succ N ih=>
  intro t v1 v2 w hN h1 h2
  obtain⟨k,m,a,b,g,n,st,ks,sa1,sc1,ao1,cap1,rfl,rfl,_,_,hs1,hk1,hm1,_,hkv1⟩:=h1.open
  obtain⟨_,_,_,_,_,_,_,_,sa2,sc2,ao2,cap2,e,rfl,_,_,hs2,hk2,hm2,_,hkv2⟩:=h2.open
  cases e
  rw[Nd.sz]at hN
  unfold maxLen at*
  exact same_step k m a b g n st ks sa1 sa2 _ sc1 sc2 ao1 ao2 _ cap1 cap2 w rfl rfl ⟨hs1.2.2.1,by omega⟩ ⟨hs2.2.2.1,by omega⟩ ⟨hk1,by omega⟩ ⟨hk2,by omega⟩ ⟨hs1.1,hs1.2.1⟩ ⟨hs2.1,hs2.2.1⟩ hkv1 hkv2 (fun t ht v1 v2 W g1 g2=>ih t v1 v2 W (by have:=szL_mem ht;omega) g1 g2)
end Go.Proofs.YtbbeciofgnkggaaGreatDoor.tre
namespace Go.Proofs.YtbbeciofgnkggaaGreatDoor.tre
open Go.RowKit nod
theorem rt_bool{a b:Bool}(h:a=b):Ending.returned (.bool a)=.returned (.bool b):=by rw[h]
def bareB(m a b:Int)(g:Bool)(n:ByteArray)(sl kl:Nat)(m' a' b':Int)(g':Bool)(n':ByteArray)(kl':Nat):Bool:=
 decide (m=m')&&decide (a=a')&&decide (b=b')&&(g==g')&&(n.toList==n'.toList)&&decide (sl=0)&&decide (kl=kl')
theorem bare_any(k m a b:Int)(g:Bool)(n:ByteArray)(sa:Option Addr)(sl sc:Nat)(ka:Option Addr)(kl kc:Nat)(k' m' a' b':Int)(g':Bool)(n':ByteArray)(sa':Option Addr)(sl' sc':Nat)(ka':Option Addr)(kl' kc':Nat)(w:World):
  Calls Tryz.prog 24 #[.agg (n8 k m a b g n sa sl sc ka kl kc),.agg (n8 k' m' a' b' g' n' sa' sl' sc' ka' kl' kc')] w fun e w'=>
   e=.returned (.bool (bareB m a b g n sl kl m' a' b' g' n' kl'))∧Below w.heap.size w w':=by
 go_enter Tryz.func24,Tryz.ntmps24
 go_wp2
 all_goals(go_ret;refine⟨rt_bool ?_,below2 w _ _⟩;unfold bareB;simp_all<;>(rw[Bool.eq_iff_iff];simp;try omega))
def pointB(r:Int):Bool:=decide (0≤r)&&decide (r≤1114111)&&(decide (r<55296)||decide (57343<r))
theorem point_d(r:Int)(w:World):Calls Tryz.prog 33 #[.int .i64 r] w fun e w'=>e=.returned (.bool (pointB r))∧w'=w:=by
 go_enter Tryz.func33,Tryz.ntmps33
 go_wp2
 all_goals(go_ret;refine⟨rt_bool ?_,rfl⟩;unfold pointB;rw[Bool.eq_iff_iff];simp;try omega)
end Go.Proofs.YtbbeciofgnkggaaGreatDoor.tre
namespace Go.Proofs.YtbbeciofgnkggaaGreatDoor.tre
open Go.RowKit nod
def repD(k:Int):Bool:=k==1||k==2||k==3||k==5||k==9||k==11||k==13||k==14
theorem repeats_d(k:Int)(w:World):Calls Tryz.prog 36 #[.int .i64 k] w fun e w'=>e=.returned (.bool (repD k))∧w'=w:=by
 unfold repD
 by_cases c:k=1∨k=2∨k=3∨k=5∨k=9∨k=11∨k=13∨k=14
 ·rcases c with rfl|rfl|rfl|rfl|rfl|rfl|rfl|rfl<;>(go_enter Tryz.func36,Tryz.ntmps36;go_wp2;go_ret;exact⟨rfl,rfl⟩)
 ·have e:(k==1)=false∧(k==2)=false∧(k==3)=false∧(k==5)=false∧(k==9)=false∧(k==11)=false∧(k==13)=false∧(k==14)=false:=by
   refine⟨?_,?_,?_,?_,?_,?_,?_,?_⟩<;>(rw[beq_eq_false_iff_ne];intro h;subst h;simp at c)
  obtain⟨e1,e2,e3,e4,e5,e6,e7,e8⟩:=e
  rw[e1,e2,e3,e4,e5,e6,e7,e8]
  go_enter Tryz.func36,Tryz.ntmps36
  go_wp2
  go_ret
  exact⟨rfl,rfl⟩
end Go.Proofs.YtbbeciofgnkggaaGreatDoor.tre
section
namespace Go.Proofs.YtbbeciofgnkggaaGreatDoor.tre
open Go.RowKit nod tok
section
variable{f:Nat→Int}{n:Nat}
theorem tokLow{a:Nat}(k:Nat){x:Int}(hx:f a=x)(h0:0≤x)(h1:x≤127)(hl:a<n)(h92:¬x=92):token f n a k=if 0<k then within f n x (a+1) k else outside f n a x (a+1) k:=by
 unfold token;rw[point_low h0 h1 hl hx,bind_ok,if_neg h92]
theorem tokEsc{a:Nat}(k:Nat){x:Int}(h9:f a=92)(hx:f (a+1)=x)(h0:0≤x)(h1:x≤127)(hl:a+1<n):token f n a k=(escape f n a (a+1) k).with_ k:=by
 unfold token;rw[point_low (by decide) (by decide) (by omega) h9,bind_ok,if_pos rfl]
theorem out_mark{a:Nat}{x:Int}(hx:f a=x)(h0:0≤x)(h1:x≤127)(hl:a<n)(h92:¬x=92)(h91:¬x=91){T:Tk}{b:Nat}(hm:tok.mark f n a x (a+1)=.ok T b):token f n a 0=.ok (T,0) b:=by
 rw[tokLow 0 hx h0 h1 hl h92,if_neg (by omega)];unfold outside;rw[if_neg h91,hm];rfl
/--What may not stand behind a part. -/
def Fol(f:Nat→Int)(n a:Nat):Prop:=n≤a∨(f a≠42∧f a≠43∧f a≠63∧f a≠123)
theorem at_is{a:Nat}{c:Int}(h:f a=c)(hl:a<n):at_ f n a c=true:=by unfold at_;simp[h,hl]
theorem at_ne{a:Nat}{c:Int}(h:f a≠c):at_ f n a c=false:=by unfold at_;simp[h]
/--The digits of a number. -/
def dig(v:Nat):List UInt8:=if v<10 then[UInt8.ofNat (48+v)]else if v<100 then[UInt8.ofNat (48+v/10),UInt8.ofNat (48+v%10)]else[49,48,48]
end
end Go.Proofs.YtbbeciofgnkggaaGreatDoor.tre
end
section
namespace Go.Proofs.YtbbeciofgnkggaaGreatDoor.tre
open Go.RowKit nod tok
section
variable{f:Nat→Int}{n:Nat}
/--The bytes l stand at a. -/
def Lie(f:Nat→Int)(n a:Nat)(l:List UInt8):Prop:=a+l.length≤n∧∀i x,l[i]?=some x→f (a+i)=x.toNat
theorem Lie.left{a:Nat}{l m:List UInt8}(h:Lie f n a (l++m)):Lie f n a l:=by
 obtain⟨h1,h2⟩:=h
 rw[List.length_append]at h1
 refine⟨by omega,fun i x hi=>h2 i x ?_⟩
 rw[List.getElem?_append_left (List.getElem?_eq_some_iff.1 hi).1];exact hi
theorem Lie.right{a:Nat}{l m:List UInt8}(h:Lie f n a (l++m)):Lie f n (a+l.length) m:=by
 obtain⟨h1,h2⟩:=h
 rw[List.length_append]at h1
 refine⟨by omega,fun i x hi=>?_⟩
 have:=h2 (l.length+i) x (by rw[List.getElem?_append_right (by omega),Nat.add_sub_cancel_left];exact hi)
 rwa[←Nat.add_assoc]at this
theorem Lie.b0{a:Nat}{x:UInt8}{l:List UInt8}(h:Lie f n a (x::l)):f a=x.toNat∧a<n:=by
 have:=h.2 0 x rfl;have h1:=h.1;simp only[List.length_cons]at h1;exact⟨this,by omega⟩
theorem Lie.b1{a:Nat}{x y:UInt8}{l:List UInt8}(h:Lie f n a (x::y::l)):f (a+1)=y.toNat∧a+1<n:=by
 have:=h.2 1 y rfl;have h1:=h.1;simp only[List.length_cons]at h1;exact⟨this,by omega⟩
theorem Lie.b2{a:Nat}{x y z:UInt8}{l:List UInt8}(h:Lie f n a (x::y::z::l)):f (a+2)=z.toNat∧a+2<n:=by
 have:=h.2 2 z rfl;have h1:=h.1;simp only[List.length_cons]at h1;exact⟨this,by omega⟩
/--An opening bracket. -/
theorem open_tok{a:Nat}(h:f a=40)(hl:a<n){T:Tk}{b:Nat}(ho:open_ f n a (a+1)=.ok T b):token f n a 0=.ok (T,0) b:=
 out_mark h (by decide) (by decide) hl (by decide) (by decide) (by unfold tok.mark;simp[ho])
end
end Go.Proofs.YtbbeciofgnkggaaGreatDoor.tre
end
section
namespace Go.Proofs.YtbbeciofgnkggaaGreatDoor.tre
open Go.RowKit nod tok
theorem data_app(x y:ByteArray):(x++y).data.toList=x.data.toList++y.data.toList:=by rw[ByteArray.data_append];simp
section
variable{f:Nat→Int}{n:Nat}
theorem times_facts{x y:Int}(h:(timesT x y).size≠0):0≤x∧x≤100∧y≤100∧(y=-1∨x≤y):=by
 by_cases hc:x<0∨(y≠-1∧y<x)∨100<max x y
 ·exfalso;apply h;unfold timesT;rw[if_pos hc];rfl
 ·omega
end
end Go.Proofs.YtbbeciofgnkggaaGreatDoor.tre
end
