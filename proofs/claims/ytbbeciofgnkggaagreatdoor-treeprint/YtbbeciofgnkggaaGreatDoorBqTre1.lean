import Derived.Test.YtbbeciofgnkggaaGreatDoorBqNod1
import Derived.Deep.RegionWith
import Derived.Test.YtbbeciofgnkggaaGreatDoorBqTok8
import Derived.Test.YtbbeciofgnkggaaGreatDoorBqTok7
import Derived.Lib.AppendStr
import Derived.Laws.Rows
import Derived.Lib.ItoaNum
import Derived.Lib.SlicesS
set_option linter.unusedSimpArgs false
set_option linter.unusedVariables false
set_option maxRecDepth 100000
set_option maxHeartbeats 2000000
namespace Go.Proofs.YtbbeciofgnkggaaGreatDoor.tre
open Go.RowKit nod
open rng(R RV ret_int ret_bool below_drewN info_parts own_below')
def fieldsP(k:Int):Int:=
 if k=1∨k=13 then 2 else if k=3 then 41 else if k=4 then 6 else if k=5 then 24 else if k=6∨k=7∨k=11 then 32 else if k=8 then 39 else if k=9 then 50 else if k=10 then 33 else if k=12 then 1 else 0
/--Has the kind k the field f. -/
def may(k f:Int):Bool:=bits .and .u64 (fieldsP k) f !=0
def othersZ:Nd→Bool
 |.mk k m a b g n s ks=>s.isEmpty&&(m==0||may k 1)&&(a==0||may k 2)&&(b==0||may k 4)&&(!g||may k 8)&&(n.toList.isEmpty||may k 16)&&(ks.isEmpty||may k 32)
theorem fields_any(k:Int)(w:World):Calls Tryz.prog 38 #[.int .i64 k] w fun e w'=>e=.returned (.int .u64 (fieldsP k))∧w'=w:=by
 by_cases c1:k=1
 ·subst c1;go_enter Tryz.func38,Tryz.ntmps38;go_wp2;go_ret;exact⟨rfl,rfl⟩
 by_cases c13:k=13
 ·subst c13;go_enter Tryz.func38,Tryz.ntmps38;go_wp2;go_ret;exact⟨rfl,rfl⟩
 by_cases c3:k=3
 ·subst c3;go_enter Tryz.func38,Tryz.ntmps38;go_wp2;go_ret;exact⟨rfl,rfl⟩
 by_cases c4:k=4
 ·subst c4;go_enter Tryz.func38,Tryz.ntmps38;go_wp2;go_ret;exact⟨rfl,rfl⟩
 by_cases c5:k=5
 ·subst c5;go_enter Tryz.func38,Tryz.ntmps38;go_wp2;go_ret;exact⟨rfl,rfl⟩
 by_cases c6:k=6
 ·subst c6;go_enter Tryz.func38,Tryz.ntmps38;go_wp2;go_ret;exact⟨rfl,rfl⟩
 by_cases c7:k=7
 ·subst c7;go_enter Tryz.func38,Tryz.ntmps38;go_wp2;go_ret;exact⟨rfl,rfl⟩
 by_cases c11:k=11
 ·subst c11;go_enter Tryz.func38,Tryz.ntmps38;go_wp2;go_ret;exact⟨rfl,rfl⟩
 by_cases c8:k=8
 ·subst c8;go_enter Tryz.func38,Tryz.ntmps38;go_wp2;go_ret;exact⟨rfl,rfl⟩
 by_cases c9:k=9
 ·subst c9;go_enter Tryz.func38,Tryz.ntmps38;go_wp2;go_ret;exact⟨rfl,rfl⟩
 by_cases c10:k=10
 ·subst c10;go_enter Tryz.func38,Tryz.ntmps38;go_wp2;go_ret;exact⟨rfl,rfl⟩
 by_cases c12:k=12
 ·subst c12;go_enter Tryz.func38,Tryz.ntmps38;go_wp2;go_ret;exact⟨rfl,rfl⟩
 have HE:Hid (fieldsP k=0):=by unfold Hid fieldsP;rw[if_neg (by omega),if_neg c3,if_neg c4,if_neg c5,if_neg (by omega),if_neg c8,if_neg c9,if_neg c10,if_neg c12]
 have f1:(k==1)=false:=by simpa using c1
 have f13:(k==13)=false:=by simpa using c13
 have f3:(k==3)=false:=by simpa using c3
 have f4:(k==4)=false:=by simpa using c4
 have f5:(k==5)=false:=by simpa using c5
 have f6:(k==6)=false:=by simpa using c6
 have f7:(k==7)=false:=by simpa using c7
 have f11:(k==11)=false:=by simpa using c11
 have f8:(k==8)=false:=by simpa using c8
 have f9:(k==9)=false:=by simpa using c9
 have f10:(k==10)=false:=by simpa using c10
 have f12:(k==12)=false:=by simpa using c12
 clear c1 c13 c3 c4 c5 c6 c7 c11 c8 c9 c10 c12
 go_enter Tryz.func38,Tryz.ntmps38
 go_wp2
 go_ret
 exact⟨by rw[HE.out];rfl,rfl⟩
theorem may_any(k f:Int)(ob:Nat)(w:World)(h:w.cell? ⟨ob,0,none⟩=some (.int .u64 (fieldsP k))):
  Calls Tryz.prog 39 #[.int .u64 f,.pointer (some ⟨ob,0,none⟩)] w fun e w'=>e=.returned (.bool (may k f))∧w'=w:=by
 go_enter Tryz.func39,Tryz.ntmps39
 go_wp2
 go_ret
 exact⟨rfl,rfl⟩
end Go.Proofs.YtbbeciofgnkggaaGreatDoor.tre
namespace Go.Proofs.YtbbeciofgnkggaaGreatDoor.tre
open Go.RowKit nod
structure Wr where
 text:List UInt8
 room:Int
 depth:Int
 groups:Int
 names:List ByteArray
/--The writer s lies in block g. -/
def WrAt(w:World)(base g:Nat)(s:Wr):Prop:=base≤g∧∃p bv nv,w.heap[g]?=some (.cells #[p,bv,.int .i64 s.room,.int .i64 s.depth,.int .i64 s.groups,nv] 51 (0,0))∧
 (p=.pointer none∨p=.pointer (some ⟨g,0,none⟩))∧w.ownsRow base 5 1 bv s.text.length (Lib.byteCells s.text)∧w.ownsRow base 9 1 nv s.names.length (s.names.map Value.string)
/--From w to w' nothing below base has changed, and no block but writers, rows of bytes and rows of texts. -/
structure Kt(base:Nat)(w w':World):Prop where
 below:Below base w w'
 block:∀(k:Nat)(cs:Array Value)(t:TypeId)(fr:Nat×Nat),w.heap[k]?=some (.cells cs t fr)→t≠51→t≠5→t≠9→w'.heap[k]?=some (.cells cs t fr)
theorem Kt.refl(base:Nat)(w:World):Kt base w w:=⟨Below.refl _ _,fun _ _ _ _ h _ _ _=>h⟩
theorem Kt.trans{base:Nat}{a b c:World}(h:Kt base a b)(k:Kt base b c):Kt base a c:=⟨h.below.trans k.below,fun i cs t fr h1 n1 n2 n3=>k.block i cs t fr (h.block i cs t fr h1 n1 n2 n3) n1 n2 n3⟩
theorem Kt.of_below{base:Nat}{w w':World}(h:Below w.heap.size w w')(hb:base≤w.heap.size):Kt base w w':=
 ⟨below_less h hb,fun k cs t fr h1 _ _ _=>(h.block k (Array.getElem?_eq_some_iff.1 h1).1).trans h1⟩
theorem Bk.kt{base:Nat}{w w':World}{g:Nat}{cs:Array Value}{t:TypeId}(h:Bk w g cs t)(k:Kt base w w')(h1:t≠51)(h2:t≠5)(h3:t≠9):Bk w' g cs t:=k.block g cs t (0,0) h h1 h2 h3
theorem WrAt.lt{w:World}{base g:Nat}{s:Wr}(h:WrAt w base g s):g<w.heap.size:=by
 obtain⟨_,p,bv,nv,h1,_⟩:=h
 exact(Array.getElem?_eq_some_iff.1 h1).1
theorem WrAt.on{w w':World}{base g:Nat}{s:Wr}(h:WrAt w base g s)(hb:Below w.heap.size w w'):WrAt w' base g s:=by
 have hl:=h.lt
 obtain⟨h0,p,bv,nv,h1,h2,h3,h4⟩:=h
 exact⟨h0,p,bv,nv,(hb.block g hl).trans h1,h2,rng.own_below' h3 hb,rng.own_below' h4 hb⟩
/--Rows of another type lie elsewhere. -/
theorem own_off{w:World}{base e n g:Nat}{v:Value}{xs:List Value}{cs:Array Value}{t:TypeId}{fr:Nat×Nat}(h:w.ownsRow base e 1 v n xs)(hg:w.heap[g]?=some (.cells cs t fr))(ht:t≠e):v.ownBlock≠some g:=by
 rcases h.2 with⟨rfl,_⟩|⟨g',cap,cur,rfl,_,hg',_⟩
 ·simp[Value.ownBlock]
 ·intro h
  simp only[Value.ownBlock,Option.some.injEq]at h
  subst h
  rw[hg']at hg
  simp only[Option.some.injEq,Obj.cells.injEq]at hg
  exact ht hg.2.1.symm
theorem own_set{w:World}{base e n g i:Nat}{v u:Value}{xs:List Value}(h:w.ownsRow base e 1 v n xs)(hg:v.ownBlock≠some g):(w.setCell ⟨g,i,none⟩ u).ownsRow base e 1 v n xs:=by
 refine h.kept (row:=some g) ⟨rfl,rfl,rfl,by simp[World.setCell],fun k _ hk=>Below.heap_setCell _ _ _ _ (fun e=>hk (by simp[e]))⟩ ?_
 exact Or.inr hg
theorem neWB:(51:TypeId)≠5:=by decide
theorem neWS:(51:TypeId)≠9:=by decide
theorem neBS:(5:TypeId)≠9:=by decide
/--The writer's own numbers are set. -/
theorem WrAt.set{w:World}{base g:Nat}{s:Wr}(h:WrAt w base g s)(s':Wr)(i:Nat)(u:Value)(ht:s'.text=s.text)(hn:s'.names=s.names)
  (hc:(#[s.room,s.depth,s.groups].map (Value.int .i64)).setIfInBounds i u=#[s'.room,s'.depth,s'.groups].map (Value.int .i64))(hi:i<3):WrAt (w.setCell ⟨g,i+2,none⟩ u) base g s'∧Kt base w (w.setCell ⟨g,i+2,none⟩ u):=by
 obtain⟨h0,p,bv,nv,h1,h2,h3,h4⟩:=h
 have b1:=own_off h3 h1 neWB
 have b2:=own_off h4 h1 neWS
 refine⟨⟨h0,p,bv,nv,?_,h2,by rw[ht];exact own_set h3 b1,by rw[hn];exact own_set h4 b2⟩,⟨(Below.refl _ w).setCell (p:=⟨g,i+2,none⟩) h0 u,fun k cs t fr hk n1 n2 n3=>?_⟩⟩
 ·simp only[World.setCell,Array.getElem?_modify,if_true,h1,Option.map_some]
  match i,hi with
  |0,_=>simp at hc;simp[hc]
  |1,_=>simp at hc;simp[hc]
  |2,_=>simp at hc;simp[hc]
 ·by_cases e:k=g
  ·subst e
   rw[h1]at hk
   simp only[Option.some.injEq,Obj.cells.injEq]at hk
   exact absurd hk.2.1.symm n1
  ·exact(Below.heap_setCell _ _ _ _ e).trans hk
theorem sizeBd:(Tryz.prog.info? 49).map (·.size)=some 2:=by kernel_rfl
/--copyCheck of a writer's builder that has been used. -/
theorem check_used(g:Nat)(w:World)(h0:w.cell? ⟨g,0,none⟩=some (.pointer (some ⟨g,0,none⟩))):
  Calls Tryz.prog 66 #[.pointer (some ⟨g,0,none⟩)] w fun e w'=>e=.returned (.tuple #[])∧w'=w:=by
 obtain⟨j,hj,_⟩:=Option.map_eq_some_iff.1 sizeBd
 go_enter Tryz.func66,Tryz.ntmps66
 go_wp2
 rw[Lib.run_neq_ptr_same w _ Tryz.underlying46 hj]
 go_wp2
 go_end0
 exact⟨rfl,rfl⟩
/--copyCheck of a writer's builder that is fresh. -/
theorem check_fresh(g:Nat)(w:World)(h0:w.cell? ⟨g,0,none⟩=some (.pointer none))(hsh:w.shape? g=some (51,6))(hfz:w.frozen? ⟨g,0,none⟩=false):
  Calls Tryz.prog 66 #[.pointer (some ⟨g,0,none⟩)] w fun e w'=>e=.returned (.tuple #[])∧w'=w.setCell ⟨g,0,none⟩ (.pointer (some ⟨g,0,none⟩)):=by
 obtain⟨j,hj,hjs⟩:=Option.map_eq_some_iff.1 sizeBd
 go_enter Tryz.func66,Tryz.ntmps66
 go_wp2
 rw[Lib.run_to_unsafe w ⟨g,0,none⟩ Tryz.underlying46 Tryz.underlying99 hj (by rw[hjs];decide) hsh (Nat.zero_lt_succ _)]
 simp only[Result.andThen]
 rw[Oper.upon_value]
 go_wp2
 rw[run_callFunc_extern Tryz.func82 (by kernel_rfl) (by kernel_rfl) (by kernel_rfl) (e:=Extern.AbiNoEscape.same) (by kernel_rfl)]
 rw[Lib.run_noEscape]
 simp only[Result.andThen]
 rw[Oper.upon_value]
 go_wp2
 rw[Lib.run_from_unsafe w ⟨g,0,none⟩ Tryz.underlying99 Tryz.underlying46 hj hsh (by kernel_rfl)]
 simp only[Result.andThen]
 rw[Oper.upon_value]
 go_wp2
 go_end0
 exact⟨rfl,rfl⟩
end Go.Proofs.YtbbeciofgnkggaaGreatDoor.tre
namespace Go.Proofs.YtbbeciofgnkggaaGreatDoor.tre
open Go.RowKit nod
open rng(ret_int ret_bool below_drewN info_parts own_below')
theorem infoByte:(Tryz.prog.info? 5).map (fun i=>(i.zero,i.size,i.bytes))=some (some (.int .u8 0),1,1):=by kernel_rfl
theorem strCells_bytes(s:ByteArray):Lib.strCells s=Lib.byteCells s.data.toList:=by
 simp[Lib.strCells,Lib.byteCells]
/--A text behind what is written. -/
def Wr.add(s:Wr)(t:ByteArray):Wr:={s with text:=s.text++t.data.toList}
theorem write_any(base g:Nat)(s:Wr)(t:ByteArray)(w:World)(h:WrAt w base g s)(hl:s.text.length+t.size≤140737488355328):
  Calls Tryz.prog 49 #[.pointer (some ⟨g,0,none⟩),.string t] w fun e w'=>e=.returned (.tuple #[.int .i64 t.size,.nilIface])∧WrAt w' base g (s.add t)∧Kt base w w':=by
 obtain⟨i0,hi,hz0,hz1,hz2⟩:=info_parts infoByte
 have hbw:base≤w.heap.size:=Nat.le_trans h.1 (Nat.le_of_lt h.lt)
 have C:Hid (Calls Tryz.prog 66 #[.pointer (some ⟨g,0,none⟩)] w fun e w'=>e=.returned (.tuple #[])∧(∃bv nv,w'.heap[g]?=some (.cells #[.pointer (some ⟨g,0,none⟩),bv,.int .i64 s.room,.int .i64 s.depth,.int .i64 s.groups,nv] 51 (0,0))∧w'.ownsRow base 5 1 bv s.text.length (Lib.byteCells s.text)∧w'.ownsRow base 9 1 nv s.names.length (s.names.map Value.string))∧Kt base w w'):=by
  obtain⟨h0,p,bv,nv,h1,h2,h3,h4⟩:=h
  rcases h2 with rfl|rfl
  ·refine(check_fresh g w (by rw[Lib.cell_of_heap h1];rfl) (by simp[World.shape?,h1]) (Lib.frozen_of_heap h1 0)).mono ?_
   rintro e w'⟨rfl,rfl⟩
   refine⟨rfl,⟨bv,nv,?_,own_set h3 (own_off h3 h1 neWB),own_set h4 (own_off h4 h1 neWS)⟩,⟨(Below.refl _ w).setCell (p:=⟨g,0,none⟩) h0 _,fun k cs t fr hk n1 n2 n3=>?_⟩⟩
   ·simp[World.setCell,Array.getElem?_modify,h1]
   ·by_cases e:k=g
    ·subst e
     rw[h1]at hk
     simp only[Option.some.injEq,Obj.cells.injEq]at hk
     exact absurd hk.2.1.symm n1
    ·exact(Below.heap_setCell _ _ _ _ e).trans hk
  ·refine(check_used g w (by rw[Lib.cell_of_heap h1];rfl)).mono ?_
   rintro e w'⟨rfl,rfl⟩
   exact⟨rfl,⟨bv,nv,h1,h3,h4⟩,Kt.refl _ _⟩
 have hbg:=h.1
 clear h
 go_enter Tryz.func49,Tryz.ntmps49
 go_wp2_with(go_at_call 66;refine C.out.mono ?_)
 rintro e w1⟨rfl,⟨bv,nv,hbk,hown,hnm⟩,k1⟩
 have c0:w1.cell? ⟨g,0,none⟩=some (.pointer (some ⟨g,0,none⟩)):=by rw[Lib.cell_of_heap hbk];rfl
 have c1:w1.cell? ⟨g,1,none⟩=some bv:=by rw[Lib.cell_of_heap hbk];rfl
 have K1:Hid (Kt base w w1):=k1
 have HN:Hid (w1.ownsRow base 9 1 nv s.names.length (s.names.map Value.string)):=hnm
 have hs1:base≤w1.heap.size:=Nat.le_trans hbw k1.below.size
 have HBK:Hid (w1.heap[g]?=some (.cells #[.pointer (some ⟨g,0,none⟩),bv,.int .i64 s.room,.int .i64 s.depth,.int .i64 s.groups,nv] 51 (0,0))):=hbk
 have HO:Hid (w1.ownsRow base 5 1 bv s.text.length (Lib.byteCells s.text)):=hown
 clear k1 hnm hbk C
 go_wp2_with(at_builtin;refine Lib.wpList_append_own_string _ rfl _ _ 47 9 rfl base 5 i0 Tryz.underlying47 Tryz.underlying9 hi hz0 hz1 hz2 _ _ _ rfl hown t rfl ?c3 ?c4 ?c5 ?_)
 case c3=>unfold maxLen;omega
 case c4=>omega
 case c5=>exact hs1
 intro v' w2 hown' hgrow _
 have hlt:g<w1.heap.size:=(Array.getElem?_eq_some_iff.1 HBK.out).1
 have hne:=own_off HO.out HBK.out neWB
 have hb2:w2.heap[g]?=some (.cells #[.pointer (some ⟨g,0,none⟩),bv,.int .i64 s.room,.int .i64 s.depth,.int .i64 s.groups,nv] 51 (0,0)):=by
  rw[hgrow.block g hlt (fun e=>hne e.symm)]
  exact HBK.out
 have d0:w2.cell? ⟨g,0,none⟩=some (.pointer (some ⟨g,0,none⟩)):=by rw[Lib.cell_of_heap hb2];rfl
 have d1:w2.cell? ⟨g,1,none⟩=some bv:=by rw[Lib.cell_of_heap hb2];rfl
 have f1:w2.frozen? ⟨g,1,none⟩=false:=Lib.frozen_of_heap hb2 1
 obtain⟨ao,n',cap,rfl⟩:∃ao n' cap,v'=.slice ao n' cap:=by
  rcases hown'.2 with⟨hv,_⟩|⟨g,cap,cur,hv,_⟩
  ·exact⟨_,_,_,hv⟩
  ·exact⟨_,_,_,hv⟩
 have HG:Hid (w1.grownBy w2 bv.ownBlock):=hgrow
 have HO2:Hid (w2.ownsRow base 5 1 (.slice ao n' cap) (s.text.length+t.size) (Lib.byteCells s.text++Lib.strCells t)):=hown'
 have HB2:Hid (w2.heap[g]?=some (.cells #[.pointer (some ⟨g,0,none⟩),bv,.int .i64 s.room,.int .i64 s.depth,.int .i64 s.groups,nv] 51 (0,0))):=hb2
 clear hgrow hown' hb2 hown
 go_wp2
 go_ret2
 have hnn:w2.ownsRow base 9 1 nv s.names.length (s.names.map Value.string):=HN.out.kept HG.out (by
  rcases HN.out.2 with⟨rfl,h0⟩|⟨gn,cn,cur,rfl,hgn,hgg,_⟩
  ·exact .inl rfl
  ·right
   intro e
   have:=own_off HO.out hgg (Ne.symm neBS)
   exact this (e.symm▸rfl))
 refine⟨rfl,⟨hbg,.pointer (some ⟨g,0,none⟩),.slice ao n' cap,nv,?_,.inr rfl,?_,own_set hnn (own_off hnn HB2.out neWS)⟩,?_⟩
 ·have:=HB2.out
  simp[World.setCell,Array.getElem?_modify,this,Wr.add]
 ·have e1:(s.add t).text.length=s.text.length+t.size:=by simp[Wr.add]
  have e2:Lib.byteCells (s.add t).text=Lib.byteCells s.text++Lib.strCells t:=by rw[strCells_bytes];simp[Wr.add,Lib.byteCells]
  rw[e1,e2]
  exact own_set HO2.out (own_off HO2.out HB2.out neWB)
 ·refine K1.out.trans ⟨(Below.grown (Below.refl _ w1) HG.out hs1 (fun k e=>(HO.out.lt k e).1)).setCell (p:=⟨g,1,none⟩) hbg _,fun k cs t fr hk n1 n2 n3=>?_⟩
  have hkl:=(Array.getElem?_eq_some_iff.1 hk).1
  have hkg:k≠g:=by
   rintro rfl
   rw[HBK.out]at hk
   simp only[Option.some.injEq,Obj.cells.injEq]at hk
   exact n1 hk.2.1.symm
  refine(Below.heap_setCell _ _ _ _ hkg).trans ((HG.out.block k hkl (fun e=>?_)).trans hk)
  exact own_off HO.out hk n2 e.symm
/--Less room. -/
def Wr.less(s:Wr)(n:Int):Wr:={s with room:=s.room-n}
def Wr.deep(s:Wr)(n:Int):Wr:={s with depth:=s.depth+n}
/--A piece of the pattern. -/
def putP(s:Wr)(t:ByteArray):Wr×Bool:=if t.size=0 then(s,false)else if 0≤s.room-t.size then((s.less t.size).add t,true)else(s.less t.size,false)
def enterP(s:Wr)(t:ByteArray):Wr×Bool:=if s.depth+1≤50 then putP (s.deep 1) t else(s.deep 1,false)
def leaveP(s:Wr)(t:ByteArray):Wr×Bool:=putP (s.deep (-1)) t
/--What holds while a writer still may be one. -/
structure Good(s:Wr):Prop where
 r0:0≤s.room
 r1:s.text.length+s.room≤2000
 d0:0≤s.depth
 d1:s.depth≤50
 g0:0≤s.groups
 g1:s.groups≤20
 n1:s.names.length≤20
theorem take_any(base g:Nat)(s:Wr)(n:Int)(w:World)(h:WrAt w base g s)(h0:0≤s.room)(h1:s.room≤2000)(h2:0≤n)(h3:n≤9223372036854775807):
  Calls Tryz.prog 48 #[.pointer (some ⟨g,0,none⟩),.int .i64 n] w fun e w'=>e=.returned (.bool (decide (0≤s.room-n)))∧WrAt w' base g (s.less n)∧Kt base w w':=by
 have H:=h.set (s.less n) 0 (.int .i64 (s.room-n)) rfl rfl (by simp[Wr.less]) (by omega)
 obtain⟨hb,p,bv,nv,hbk,_⟩:=h
 have c2:w.cell? ⟨g,2,none⟩=some (.int .i64 s.room):=by rw[Lib.cell_of_heap hbk];rfl
 have f2:w.frozen? ⟨g,2,none⟩=false:=Lib.frozen_of_heap hbk 2
 have HH:Hid _:=H
 clear H hbk
 generalize s.room=r at*
 go_enter Tryz.func48,Tryz.ntmps48
 go_wp2
 go_ret
 exact⟨ret_bool (by rw[decide_eq_decide];omega),HH.out.1,HH.out.2⟩
theorem put_any(base g:Nat)(s:Wr)(t:ByteArray)(w:World)(h:WrAt w base g s)(h0:0≤s.room)(h1:s.text.length+s.room≤2000)(ht:t.size≤9223372036854775807):
  Calls Tryz.prog 32 #[.pointer (some ⟨g,0,none⟩),.string t] w fun e w'=>e=.returned (.bool (putP s t).2)∧WrAt w' base g (putP s t).1∧Kt base w w':=by
 by_cases z:t.size=0
 ·have e1:t.toList.isEmpty=true:=lin.isEmpty_of z
  have HE:Hid (putP s t=(s,false)):=by unfold Hid putP;rw[if_pos z]
  have HW:Hid (WrAt w base g s):=h
  rw[HE.out]
  clear h z HE
  go_enter Tryz.func32,Tryz.ntmps32
  go_wp2
  go_ret
  exact⟨rfl,HW.out,Kt.refl _ _⟩
 have e1:t.toList.isEmpty=false:=lin.isEmpty_not z
 have C:=take_any base g s t.size w h h0 (by omega) (by omega) (by omega)
 by_cases c:0≤s.room-t.size
 ·have HE:Hid (putP s t=((s.less t.size).add t,true)):=by unfold Hid putP;rw[if_neg z,if_pos c]
  rw[HE.out]
  rw[decide_eq_true c]at C
  have CW:Hid (∀W,WrAt W base g (s.less t.size)→Calls Tryz.prog 49 #[.pointer (some ⟨g,0,none⟩),.string t] W fun e w'=>e=.returned (.tuple #[.int .i64 t.size,.nilIface])∧WrAt w' base g ((s.less t.size).add t)∧Kt base W w'):=fun W hW=>write_any base g (s.less t.size) t W hW (by simp[Wr.less];omega)
  clear h z HE
  go_enter Tryz.func32,Tryz.ntmps32
  go_wp2_with(first
   |(go_at_call 48;refine C.mono ?_;rintro e w1⟨rfl,d1,d2⟩;have W1:Hid (WrAt w1 base g _):=d1;have K1:Hid (Kt base w w1):=d2;clear d1 d2)
   |(go_at_call 49;refine(CW.out _ W1.out).mono ?_;rintro e w2⟨rfl,d1,d2⟩;have W2:Hid (WrAt w2 base g _):=d1;have K2:Hid (Kt base w1 w2):=d2;clear d1 d2))
  go_ret
  exact⟨rfl,W2.out,K1.out.trans K2.out⟩
 ·have HE:Hid (putP s t=(s.less t.size,false)):=by unfold Hid putP;rw[if_neg z,if_neg c]
  rw[HE.out]
  rw[decide_eq_false c]at C
  clear h z HE
  go_enter Tryz.func32,Tryz.ntmps32
  go_wp2_with(go_at_call 48;refine C.mono ?_;rintro e w1⟨rfl,d1,d2⟩;have W1:Hid (WrAt w1 base g _):=d1;have K1:Hid (Kt base w w1):=d2;clear d1 d2)
  go_ret
  exact⟨rfl,W1.out,K1.out⟩
theorem enter_any(base g:Nat)(s:Wr)(t:ByteArray)(w:World)(h:WrAt w base g s)(hg:Good s)(ht:t.size≤9223372036854775807):
  Calls Tryz.prog 57 #[.pointer (some ⟨g,0,none⟩),.string t] w fun e w'=>e=.returned (.bool (enterP s t).2)∧WrAt w' base g (enterP s t).1∧Kt base w w':=by
 have H:=h.set (s.deep 1) 1 (.int .i64 (s.depth+1)) rfl rfl (by simp[Wr.deep]) (by omega)
 obtain⟨q1,q2,q3,q4,_,_,_⟩:=hg
 obtain⟨hb,p,bv,nv,hbk,_⟩:=h
 have c2:w.cell? ⟨g,3,none⟩=some (.int .i64 s.depth):=by rw[Lib.cell_of_heap hbk];rfl
 have f2:w.frozen? ⟨g,3,none⟩=false:=Lib.frozen_of_heap hbk 3
 have c3:(w.setCell ⟨g,3,none⟩ (.int .i64 (s.depth+1))).cell? ⟨g,3,none⟩=some (.int .i64 (s.depth+1)):=nod.cell_set c2
 have HH:Hid (WrAt (w.setCell ⟨g,3,none⟩ (.int .i64 (s.depth+1))) base g (s.deep 1)∧Kt base w (w.setCell ⟨g,3,none⟩ (.int .i64 (s.depth+1)))):=H
 have C:=put_any base g (s.deep 1) t _ HH.out.1 q1 q2 ht
 by_cases c:s.depth+1≤50
 ·have HE:Hid (enterP s t=putP (s.deep 1) t):=by unfold Hid enterP;rw[if_pos c]
  rw[HE.out]
  obtain⟨r,hr⟩:∃r,putP (s.deep 1) t=r:=⟨_,rfl⟩
  rw[hr]at C⊢
  obtain⟨r1,r2⟩:=r
  simp only at C
  have fd:decide (s.depth+1≤50)=true:=decide_eq_true c
  clear H hbk HE hr
  generalize s.depth=r at*
  go_enter Tryz.func57,Tryz.ntmps57
  go_wp2_with(go_at_call 32;refine C.mono ?_;rintro e w1⟨rfl,d1,d2⟩;have W1:Hid (WrAt w1 base g _):=d1;have K1:Hid (Kt base _ w1):=d2;clear d1 d2)
  go_ret
  exact⟨rfl,W1.out,HH.out.2.trans K1.out⟩
 ·have HE:Hid (enterP s t=(s.deep 1,false)):=by unfold Hid enterP;rw[if_neg c]
  rw[HE.out]
  have fd:decide (s.depth+1≤50)=false:=decide_eq_false c
  clear H hbk HE C
  generalize s.depth=r at*
  go_enter Tryz.func57,Tryz.ntmps57
  go_wp2
  go_ret
  exact⟨rfl,HH.out.1,HH.out.2⟩
theorem leave_any(base g:Nat)(s:Wr)(t:ByteArray)(w:World)(h:WrAt w base g s)(hg:Good s)(ht:t.size≤9223372036854775807):
  Calls Tryz.prog 59 #[.pointer (some ⟨g,0,none⟩),.string t] w fun e w'=>e=.returned (.bool (leaveP s t).2)∧WrAt w' base g (leaveP s t).1∧Kt base w w':=by
 have H:=h.set (s.deep (-1)) 1 (.int .i64 (s.depth-1)) rfl rfl (by simp[Wr.deep];omega) (by omega)
 obtain⟨q1,q2,q3,q4,_,_,_⟩:=hg
 obtain⟨hb,p,bv,nv,hbk,_⟩:=h
 have c2:w.cell? ⟨g,3,none⟩=some (.int .i64 s.depth):=by rw[Lib.cell_of_heap hbk];rfl
 have f2:w.frozen? ⟨g,3,none⟩=false:=Lib.frozen_of_heap hbk 3
 have HH:Hid (WrAt (w.setCell ⟨g,3,none⟩ (.int .i64 (s.depth-1))) base g (s.deep (-1))∧Kt base w (w.setCell ⟨g,3,none⟩ (.int .i64 (s.depth-1)))):=H
 have C:=put_any base g (s.deep (-1)) t _ HH.out.1 q1 q2 ht
 have HE:Hid (leaveP s t=putP (s.deep (-1)) t):=rfl
 rw[HE.out]
 obtain⟨r,hr⟩:∃r,putP (s.deep (-1)) t=r:=⟨_,rfl⟩
 rw[hr]at C⊢
 obtain⟨r1,r2⟩:=r
 simp only at C
 clear H hbk HE hr
 generalize s.depth=r at*
 go_enter Tryz.func59,Tryz.ntmps59
 go_wp2_with(go_at_call 32;refine C.mono ?_;rintro e w1⟨rfl,d1,d2⟩;have W1:Hid (WrAt w1 base g _):=d1;have K1:Hid (Kt base _ w1):=d2;clear d1 d2)
 go_ret
 exact⟨rfl,W1.out,HH.out.2.trans K1.out⟩
end Go.Proofs.YtbbeciofgnkggaaGreatDoor.tre
section
namespace Go.Proofs.YtbbeciofgnkggaaGreatDoor.tre
open Go.RowKit nod
open rng(R RV ret_int ret_bool below_drewN info_parts own_below')
theorem len_szL:∀ks:List Nd,ks.length≤szL ks
 |[]=>by simp[szL]
 |t::ts=>by
  have:=len_szL ts
  have:1≤t.sz:=by obtain⟨k,m,a,b,g,n,s,ks⟩:=t;rw[Nd.sz];omega
  rw[szL,List.length_cons];omega
mutual
/--Groups with a number. -/
def grpN:Nd→Int
 |.mk k _ a _ _ _ _ ks=>(if k=9∧0<a then 1 else 0)+grpL ks
def grpL:List Nd→Int
 |[]=>0
 |t::ts=>grpN t+grpL ts
end
/--Has it a left and a right side. -/
def sided(k m:Int):Bool:=k==3&&(m==1||m==2||m==3)
def brack(k:Int):Bool:=k==9||k==10||k==11||k==3
mutual
def depN:Nd→Int
 |.mk k m _ _ _ _ _ ks=>depL (sided k m) ks+(if brack k then 1 else 0)
/--The deepest of kids; a class that is a side has no brackets. -/
def depL:Bool→List Nd→Int
 |_,[]=>0
 |q,t::ts=>max (depN t-(if t.kind==3&&q then 1 else 0)) (depL q ts)
end
theorem depL_nonneg(q:Bool):∀l:List Nd,0≤depL q l
 |[]=>by rw[depL];omega
 |t::ts=>by rw[depL];have:=depL_nonneg q ts;omega
theorem dep_bounds:∀(N:Nat)(t:Nd),t.sz≤N→0≤depN t∧depN t≤t.sz∧(brack t.kind=true→1≤depN t):=by
 intro N
 induction N with
 |zero=>intro t h;obtain⟨k,m,a,b,g,n,s,ks⟩:=t;rw[Nd.sz]at h;omega
 |succ N ih=>
  intro t h
  obtain⟨k,m,a,b,g,n,s,ks⟩:=t
  rw[Nd.sz]at h⊢
  rw[depN]
  have key:∀l:List Nd,(∀x∈l,x.sz≤N)→depL (sided k m) l≤szL l:=by
   intro l
   induction l with
   |nil=>intro _;rw[depL,szL];omega
   |cons x l ih2=>
    intro hl
    rw[depL,szL]
    have h1:=ih x (hl x (by simp))
    have h2:=ih2 (fun y hy=>hl y (by simp[hy]))
    split<;>omega
  have h1:=key ks (fun x hx=>by have:=szL_mem hx;omega)
  have h2:=depL_nonneg (sided k m) ks
  refine⟨by split<;>omega,by split<;>omega,fun hb=>?_⟩
  have hb':brack k=true:=hb
  rw[if_pos hb']
  omega
/--A row of texts as it is read. -/
def TV(w:World)(ao:Option Addr)(l:List ByteArray):Prop:=∃b off,ao=some ⟨b,off,none⟩∧∀i t,l[i]?=some t→w.cell? ⟨b,off+i,none⟩=some (.string t)
def textP(mode:Int)(l:List ByteArray):ByteArray:=if mode<0 then ByteArray.empty else(l[mode.toNat]?).getD ByteArray.empty
theorem text_any(mode:Int)(ao:Option Addr)(cap:Nat)(l:List ByteArray)(w:World)(hv:TV w ao l)(hl:l.length≤1000):
  Calls Tryz.prog 46 #[.int .i64 mode,.slice ao l.length cap] w fun e w'=>e=.returned (.string (textP mode l))∧w'=w:=by
 by_cases c1:mode<0
 ·have HE:Hid (textP mode l=ByteArray.empty):=by unfold Hid textP;rw[if_pos c1]
  have f1:decide (mode<0)=true:=decide_eq_true c1
  generalize l.length=n at*
  clear hv c1
  go_enter Tryz.func46,Tryz.ntmps46
  go_wp2
  go_ret
  exact⟨by rw[HE.out];rfl,rfl⟩
 have f1:decide (mode<0)=false:=decide_eq_false c1
 obtain⟨M,rfl⟩:∃M:Nat,mode=M:=⟨mode.toNat,by omega⟩
 obtain⟨n,hn⟩:∃n,l.length=n:=⟨_,rfl⟩
 by_cases c2:n≤M
 ·have HE:Hid (textP M l=ByteArray.empty):=by
   unfold Hid textP;rw[if_neg c1,Int.toNat_natCast,List.getElem?_eq_none (by omega)];rfl
  have f2:decide ((n:Int)≤(M:Int))=true:=decide_eq_true (by omega)
  rw[hn]
  clear hv c1 hn
  go_enter Tryz.func46,Tryz.ntmps46
  go_wp2
  go_ret
  exact⟨by rw[HE.out];rfl,rfl⟩
 ·have f2:decide ((n:Int)≤(M:Int))=false:=decide_eq_false (by omega)
  obtain⟨t,ht⟩:=getX hn (show M<n by omega)
  obtain⟨b,off,rfl,hx⟩:=hv
  have c0:=hx M t ht
  have HE:Hid (textP M l=t):=by
   unfold Hid textP;rw[if_neg c1,Int.toNat_natCast,ht];rfl
  have hlt:M<n:=by omega
  rw[hn]at hl⊢
  clear hx c1 hn ht c2
  go_enter Tryz.func46,Tryz.ntmps46
  go_wp2
  go_ret
  exact⟨by rw[HE.out];rfl,rfl⟩
def opTexts:List ByteArray:=[ByteArray.empty,⟨#[38,38]⟩,⟨#[45,45]⟩,⟨#[126,126]⟩]
theorem operator_any(mode:Int)(w:World):Calls Tryz.prog 97 #[.int .i64 mode] w fun e w'=>e=.returned (.string (textP mode opTexts))∧Below w.heap.size w w':=by
 have HB:Hid (Below w.heap.size w (w.alloc (.cells #[.string ByteArray.empty,.string ⟨#[38,38]⟩,.string ⟨#[45,45]⟩,.string ⟨#[126,126]⟩] 9))):=(Below.refl _ w).alloc (Nat.le_refl _) _
 have b:=Bk.new w #[.string ByteArray.empty,.string ⟨#[38,38]⟩,.string ⟨#[45,45]⟩,.string ⟨#[126,126]⟩] 9
 have C:=text_any mode (some ⟨w.heap.size,0,none⟩) 4 opTexts _ ⟨_,_,rfl,fun i t hi=>by
  match i,hi with
  |0,hi=>simp[opTexts]at hi;subst hi;exact b.cell 0 rfl
  |1,hi=>simp[opTexts]at hi;subst hi;exact b.cell 1 rfl
  |2,hi=>simp[opTexts]at hi;subst hi;exact b.cell 2 rfl
  |3,hi=>simp[opTexts]at hi;subst hi;exact b.cell 3 rfl
  |k+4,hi=>simp[opTexts]at hi⟩ (by decide)
 have e4:opTexts.length=4:=rfl
 rw[e4]at C
 generalize textP mode opTexts=T at*
 clear b e4
 go_enter Tryz.func97,Tryz.ntmps97
 go_wp2_with(go_at_call 46;refine C.mono ?_;rintro e w1⟨rfl,rfl⟩)
 go_ret
 exact⟨rfl,HB.out⟩
end Go.Proofs.YtbbeciofgnkggaaGreatDoor.tre
end
namespace Go.Proofs.YtbbeciofgnkggaaGreatDoor.tre
open Go.RowKit nod
open rng(R RV ret_int ret_bool below_drewN info_parts own_below')
end Go.Proofs.YtbbeciofgnkggaaGreatDoor.tre
namespace Go.Proofs.YtbbeciofgnkggaaGreatDoor.tre
open Go.RowKit nod
open rng(R RV ret_int ret_bool below_drewN info_parts own_below')
open tok(PEnv TX printL)
structure Ctx(w0 W:World)(base g:Nat)(s:Wr):Prop where
 env:PEnv w0
 hb:base=w0.heap.size
 bel:Below base w0 W
 wr:WrAt W base g s
 r0:0≤s.room
 r1:s.text.length+s.room≤2000
theorem Ctx.penv{w0 W:World}{base g:Nat}{s:Wr}(c:Ctx w0 W base g s):PEnv W:=c.env.below (c.hb▸c.bel)
theorem Ctx.size{w0 W:World}{base g:Nat}{s:Wr}(c:Ctx w0 W base g s):base≤W.heap.size:=by have:=c.bel.size;rw[c.hb]at*;exact this
theorem Ctx.on{w0 W W':World}{base g:Nat}{s:Wr}(c:Ctx w0 W base g s)(h:Below W.heap.size W W'):Ctx w0 W' base g s:=
 ⟨c.env,c.hb,c.bel.trans (below_less h c.size),c.wr.on h,c.r0,c.r1⟩
theorem Ctx.to{w0 W W':World}{base g:Nat}{s s':Wr}(c:Ctx w0 W base g s)(k:Kt base W W')(h:WrAt W' base g s')(h0:0≤s'.room)(h1:s'.text.length+s'.room≤2000):Ctx w0 W' base g s':=
 ⟨c.env,c.hb,c.bel.trans k.below,h,h0,h1⟩
/--A text for which there is room is written. -/
theorem putP_ok{s:Wr}{t:ByteArray}(h1:t.size≠0)(h2:0≤s.room-t.size):putP s t=((s.less t.size).add t,true):=by unfold putP;rw[if_neg h1,if_pos h2]
theorem nodeT:(25:TypeId)≠51∧(25:TypeId)≠5∧(25:TypeId)≠9:=by decide
end Go.Proofs.YtbbeciofgnkggaaGreatDoor.tre
section
namespace Go.Proofs.YtbbeciofgnkggaaGreatDoor.tre
open Go.RowKit nod
open rng(R RV)
open tok(PEnv TX printL)
mutual
def shortN:Nd→Prop
 |.mk _ _ _ _ _ n _ ks=>n.size≤140737488355327∧shortL ks
def shortL:List Nd→Prop
 |[]=>True
 |t::ts=>shortN t∧shortL ts
end
theorem short_mem{t:Nd}:∀{ks:List Nd},shortL ks→t∈ks→shortN t
 |[],_,h=>by cases h
 |x::ks,hs,h=>by
  rw[shortL]at hs
  rcases List.mem_cons.1 h with rfl|h
  ·exact hs.1
  ·exact short_mem hs.2 h
/-! A string's bytes. -/
def sfB(X:ByteArray):Nat→Int:=fun i=>((X.data.toList.getD i 0).toNat:Int)
theorem sfB_in(X:ByteArray):∀i,0≤sfB X i∧sfB X i≤255:=fun i=>by
 unfold sfB
 have:=UInt8.toNat_lt (X.data.toList.getD i 0)
 omega
/--A text is one token of that name. -/
def namedB(t n:ByteArray):Bool:=(tok.scanL (sfB t) t.size).2.1==0&&decide ((tok.scanL (sfB t) t.size).1.map (fun k=>lin.BA k.name)=[n])
/-! Texts. -/
def dec(n:Int):ByteArray:=⟨(Lib.itoa n).toArray⟩
def timesT(a b:Int):ByteArray:=
 if a<0∨(b≠-1∧b<a)∨100<max a b then ByteArray.empty
 else if a=0∧b=-1 then⟨#[42]⟩
 else if a=1∧b=-1 then⟨#[43]⟩
 else if a=0∧b=1 then⟨#[63]⟩
 else if a=b then(⟨#[123]⟩++dec a)++⟨#[125]⟩
 else if b=-1 then(⟨#[123]⟩++dec a)++⟨#[44,125]⟩
 else(((⟨#[123]⟩++dec a)++⟨#[44]⟩)++dec b)++⟨#[125]⟩
def propT(n:ByteArray)(neg:Bool):ByteArray:=
 if n=⟨#[100]⟩then(if neg then⟨#[92,68]⟩else⟨#[92,100]⟩)
 else if n=⟨#[119]⟩then(if neg then⟨#[92,87]⟩else⟨#[92,119]⟩)
 else if n=⟨#[115]⟩then(if neg then⟨#[92,83]⟩else⟨#[92,115]⟩)
 else if neg then(⟨#[92,80,123]⟩++n)++⟨#[125]⟩else(⟨#[92,112,123]⟩++n)++⟨#[125]⟩
def openC(neg:Bool):ByteArray:=if neg then⟨#[91,94]⟩else⟨#[91]⟩
def openN(n:ByteArray):ByteArray:=(⟨#[40,63,60]⟩++n)++⟨#[62]⟩
def backT(a:Int):ByteArray:=(⟨#[92,107,123]⟩++dec a)++⟨#[125]⟩
def lookTexts:List ByteArray:=[⟨#[40,63,61]⟩,⟨#[40,63,33]⟩,⟨#[40,63,60,61]⟩,⟨#[40,63,60,33]⟩]
def asrtTexts:List ByteArray:=[ByteArray.empty,⟨#[94]⟩,⟨#[36]⟩,⟨#[92,65]⟩,⟨#[92,122]⟩,⟨#[92,98]⟩,⟨#[92,66]⟩,⟨#[92,98,123,103,125]⟩,⟨#[92,66,123,103,125]⟩,⟨#[92,98,123,119,125]⟩,⟨#[92,66,123,119,125]⟩]
def modeTexts:List ByteArray:=[ByteArray.empty,⟨#[63]⟩,⟨#[43]⟩]
/-! The writer's methods: what is written, if all may be. -/
def putO(s:Wr)(t:ByteArray):Option Wr:=if t.size=0 then none else if 0≤s.room-t.size then some ((s.less t.size).add t)else none
def enterO(s:Wr)(t:ByteArray):Option Wr:=if s.depth+1≤50 then putO (s.deep 1) t else none
def leaveO(s:Wr)(t:ByteArray):Option Wr:=putO (s.deep (-1)) t
def propO(s:Wr)(n:ByteArray)(neg:Bool):Option Wr:=if namedB (propT n neg) n then putO s (propT n neg)else none
def sideB:Nd→Bool
 |.mk k m a b g n st ks=>k==3&&!g&&othersZ (.mk k m a b g n st ks)
def loopO(f:Wr→Nd→Option Wr):List Nd→Wr→Option Wr
 |[],s=>some s
 |t::ts,s=>(f s t).bind (loopO f ts)
def classO(ins:Wr→Nd→Option Wr)(s:Wr)(t:Nd):Option Wr:=(enterO s (openC t.neg)).bind fun s1=>(ins s1 t).bind fun s2=>leaveO s2 ⟨#[93]⟩
def rangeO(s:Wr)(a b:Int):Option Wr:=if a≤b then(putO s (TX (printL a true))).bind fun s1=>(putO s1 ⟨#[45]⟩).bind fun s2=>putO s2 (TX (printL b true))else none
def memberO(ins:Wr→Nd→Option Wr)(s:Wr)(t:Nd):Option Wr:=
 if othersZ t=false then none
 else if t.kind=1 then putO s (TX (printL t.a true))
 else if t.kind=4 then rangeO s t.a t.b
 else if t.kind=5 then propO s t.name t.neg
 else if t.kind=3 then classO ins s t
 else none
def sidesO(ins:Wr→Nd→Option Wr)(s:Wr)(m:Int):List Nd→Option Wr
 |[l,r]=>if sideB l=true∧sideB r=true∧r.mode=0∧0≤s.room-2 then(ins (s.less 2) l).bind fun s1=>ins (s1.add (textP m opTexts)) r else none
 |_=>none
def insideO:Nat→Wr→Nd→Option Wr
 |0,_,_=>none
 |N+1,s,t=>if t.mode=0 then(if t.kids.length=0 then none else loopO (memberO (insideO N)) t.kids s)else if t.mode=1∨t.mode=2∨t.mode=3 then sidesO (insideO N) s t.mode t.kids else none
def repB(k:Int):Bool:=k==1||k==2||k==3||k==5||k==9||k==11||k==13||k==14
def seqO(pt:Wr→Nd→Option Wr)(s:Wr)(t:Nd):Option Wr:=if t.kind=6∧othersZ t=true then loopO pt t.kids s else none
def barO(pt:Wr→Nd→Option Wr)(s:Wr)(t:Nd):Option Wr:=(putO s ⟨#[124]⟩).bind fun s1=>seqO pt s1 t
def altO(pt:Wr→Nd→Option Wr)(s:Wr)(t:Nd):Option Wr:=
 if othersZ t=true∧2≤t.kids.length then(match t.kids with|x::xs=>(seqO pt s x).bind (loopO (barO pt) xs)|[]=>none)else none
def bodyO(pt:Wr→Nd→Option Wr)(s:Wr)(t:Nd):Option Wr:=if t.kind=6 then seqO pt s t else if t.kind=7 then altO pt s t else none
def enclO(pt:Wr→Nd→Option Wr)(op:ByteArray)(s:Wr):List Nd→Option Wr
 |[t]=>(enterO s op).bind fun s1=>(bodyO pt s1 t).bind fun s2=>leaveO s2 ⟨#[41]⟩
 |_=>none
def Wr.grp(s:Wr):Wr:={s with groups:=s.groups+1}
def Wr.nam(s:Wr)(n:ByteArray):Wr:={s with names:=s.names++[n]}
def groupO(pt:Wr→Nd→Option Wr)(s:Wr)(t:Nd):Option Wr:=
 if t.a=0∧t.name.size=0 then enclO pt ⟨#[40,63,58]⟩ s t.kids
 else if t.a≠s.groups+1∨20<t.a then none
 else if t.name.size=0 then enclO pt ⟨#[40]⟩ s.grp t.kids
 else if namedB (openN t.name) t.name=true∧Lib.containsS s.names t.name=false then enclO pt (openN t.name) (s.grp.nam t.name) t.kids
 else none
def repeatO(pt:Wr→Nd→Option Wr)(s:Wr)(t:Nd):Option Wr:=
 match t.kids with
 |[x]=>if repB x.kind=true∧0≤t.mode∧t.mode≤2∧(timesT t.a t.b).size≠0 then(pt s x).bind fun s1=>putO s1 (timesT t.a t.b++textP t.mode modeTexts)else none
 |_=>none
def partO:Nat→Wr→Nd→Option Wr
 |0,_,_=>none
 |N+1,s,t=>
  if othersZ t=false then none
  else if t.kind=1 then putO s (TX (printL t.a false))
  else if t.kind=2 then putO s ⟨#[46]⟩
  else if t.kind=3 then classO (insideO N) s t
  else if t.kind=5 then propO s t.name t.neg
  else if t.kind=8 then repeatO (partO N) s t
  else if t.kind=9 then groupO (partO N) s t
  else if t.kind=10 then enclO (partO N) (textP t.mode lookTexts) s t.kids
  else if t.kind=11 then enclO (partO N) ⟨#[40,63,62]⟩ s t.kids
  else if t.kind=12 then putO s (textP t.mode asrtTexts)
  else if t.kind=13 then(if 0<t.a∧t.a≤s.groups then putO s (backT t.a)else none)
  else if t.kind=14 then putO s ⟨#[92,88]⟩
  else none
def w00:Wr:=⟨[],2000,0,0,[]⟩
/--A tree's pattern, if it is one. -/
def patO(N:Nat)(t:Nd):Option (List UInt8):=(bodyO (partO N) w00 t).map (·.text)
/-! What holds while a writer still may be one. -/
structure Gd(s:Wr):Prop where
 g:Good s
 n:(s.names.length:Int)≤s.groups
/--From s to s' something was written, of so many groups, so deep. -/
structure Run(s s':Wr)(gr dp:Int):Prop where
 gd:Gd s'
 sum:(s'.text.length:Int)+s'.room=s.text.length+s.room
 dep:s'.depth=s.depth
 grp:s'.groups=s.groups+gr
 low:s.depth+dp≤50
theorem Run.refl{s:Wr}(h:Gd s):Run s s 0 0:=⟨h,rfl,rfl,by omega,by have:=h.g.d1;omega⟩
theorem Run.trans{a b c:Wr}{g1 g2 d1 d2:Int}(h:Run a b g1 d1)(k:Run b c g2 d2):Run a c (g1+g2) (max d1 d2):=
 ⟨k.gd,k.sum.trans h.sum,k.dep.trans h.dep,by have:=h.grp;have:=k.grp;omega,by have:=h.low;have:=k.low;have:=h.dep;omega⟩
theorem Run.to{a b:Wr}{g d g' d':Int}(h:Run a b g d)(hg:g=g')(hd:d'≤d):Run a b g' d':=
 ⟨h.gd,h.sum,h.dep,by rw[←hg];exact h.grp,by have:=h.low;omega⟩
theorem add_len(s:Wr)(t:ByteArray):((s.add t).text.length:Int)=s.text.length+t.size:=by simp[Wr.add]
theorem putO_some{s s':Wr}{t:ByteArray}(h:putO s t=some s'):s'=(s.less t.size).add t∧(t.size:Int)≤s.room:=by
 unfold putO at h
 split at h
 ·cases h
 ·split at h
  ·cases h;exact⟨rfl,by omega⟩
  ·cases h
theorem put_run{s s':Wr}{t:ByteArray}(h:putO s t=some s')(g:Gd s):Run s s' 0 0:=by
 obtain⟨rfl,hr⟩:=putO_some h
 obtain⟨⟨r0,r1,d0,d1,g0,g1,n1⟩,n⟩:=g
 have hl:=add_len (s.less t.size) t
 have e:(s.less t.size).text=s.text:=rfl
 rw[e]at hl
 have e2:((s.less t.size).add t).room=s.room-t.size:=rfl
 exact⟨⟨⟨by rw[e2];omega,by rw[hl,e2];omega,d0,d1,g0,g1,n1⟩,n⟩,by rw[hl,e2];omega,rfl,by show s.groups=_;omega,by omega⟩
theorem enterO_some{s s':Wr}{t:ByteArray}(h:enterO s t=some s'):s.depth+1≤50∧putO (s.deep 1) t=some s':=by
 unfold enterO at h
 split at h
 ·exact⟨by assumption,h⟩
 ·cases h
theorem deep_gd{s:Wr}(g:Gd s)(k:Int)(h0:0≤s.depth+k)(h1:s.depth+k≤50):Gd (s.deep k):=by
 obtain⟨⟨r0,r1,d0,d1,g0,g1,n1⟩,n⟩:=g
 exact⟨⟨r0,r1,h0,h1,g0,g1,n1⟩,n⟩
theorem enter_gd{s s':Wr}{t:ByteArray}(h:enterO s t=some s')(g:Gd s):Gd s'∧s'.depth=s.depth+1:=by
 obtain⟨h1,h2⟩:=enterO_some h
 have r:=put_run h2 (deep_gd g 1 (by have:=g.g.d0;omega) h1)
 exact⟨r.gd,r.dep⟩
/--Brackets around what was written. -/
theorem brack_run{s s1 s2 s3:Wr}{o c:ByteArray}{gr dp:Int}(h1:enterO s o=some s1)(h2:Run s1 s2 gr dp)(h3:leaveO s2 c=some s3)(g:Gd s):Run s s3 gr (dp+1):=by
 obtain⟨a1,a2⟩:=enterO_some h1
 have r1:=put_run a2 (deep_gd g 1 (by have:=g.g.d0;omega) a1)
 have d2:s2.depth=s.depth+1:=h2.dep.trans r1.dep
 have r3:=put_run h3 (deep_gd h2.gd (-1) (by have:=g.g.d0;omega) (by have:=g.g.d1;omega))
 refine⟨r3.gd,?_,?_,?_,?_⟩
 ·have:=r1.sum;have:=h2.sum;have:=r3.sum
  have e1:((s.deep 1).text.length:Int)+(s.deep 1).room=s.text.length+s.room:=rfl
  have e2:((s2.deep (-1)).text.length:Int)+(s2.deep (-1)).room=s2.text.length+s2.room:=rfl
  omega
 ·have:=r3.dep;have e:(s2.deep (-1)).depth=s2.depth+-1:=rfl;omega
 ·have:=r1.grp;have:=h2.grp;have:=r3.grp
  have e1:(s.deep 1).groups=s.groups:=rfl
  have e2:(s2.deep (-1)).groups=s2.groups:=rfl
  omega
 ·have:=h2.low;have:=r1.dep;have e:(s.deep 1).depth=s.depth+1:=rfl;omega
theorem bind_some{α β:Type}{x:Option α}{f:α→Option β}{y:β}(h:x.bind f=some y):∃a,x=some a∧f a=some y:=Option.bind_eq_some_iff.1 h
/--A node whose kind has no kids has none. -/
theorem no_kids{t:Nd}(h:othersZ t=true)(hk:may t.kind 32=false):t.kids=[]:=by
 obtain⟨k,m,a,b,g,n,s,ks⟩:=t
 simp only[othersZ,Nd.kind,Bool.and_eq_true,Bool.or_eq_true]at h hk
 obtain⟨_,h⟩:=h
 rw[hk]at h
 rcases h with h|h
 ·simpa[Nd.kids]using h
 ·cases h
theorem leaf_zero{t:Nd}(h:t.kids=[])(h1:t.kind≠9)(h2:brack t.kind=false):grpN t=0∧depN t=0:=by
 obtain⟨k,m,a,b,g,n,s,ks⟩:=t
 simp only[Nd.kids,Nd.kind]at h h1 h2
 subst h
 rw[grpN,depN,grpL,depL,h2,if_neg (fun e=>h1 e.1)]
 simp
theorem loop_run{f:Wr→Nd→Option Wr}{gr dp:Nd→Int}(hf:∀t s s',f s t=some s'→Gd s→Run s s' (gr t) (dp t)):∀(ts:List Nd)(s s':Wr),loopO f ts s=some s'→Gd s→∃G D,Run s s' G D∧G=(ts.map gr).sum∧0≤D∧∀t∈ts,dp t≤D
 |[],s,s',h,g=>by
  rw[loopO]at h;cases h
  exact⟨0,0,Run.refl g,by simp,by omega,fun t ht=>by cases ht⟩
 |t::ts,s,s',h,g=>by
  rw[loopO]at h
  obtain⟨s1,h1,h2⟩:=bind_some h
  have r1:=hf t s s1 h1 g
  obtain⟨G,D,r2,hG,h0,hD⟩:=loop_run hf ts s1 s' h2 r1.gd
  refine⟨_,_,r1.trans r2,by rw[hG];simp,by omega,fun x hx=>?_⟩
  rcases List.mem_cons.1 hx with rfl|hx
  ·omega
  ·have:=hD x hx;omega
theorem grpL_sum:∀ks:List Nd,grpL ks=(ks.map grpN).sum
 |[]=>by simp[grpL]
 |t::ts=>by rw[grpL,grpL_sum ts];simp
theorem depL_le(q:Bool)(D:Int)(h0:0≤D):∀ks:List Nd,(∀t∈ks,depN t-(if t.kind==3&&q then 1 else 0)≤D)→depL q ks≤D
 |[],_=>by rw[depL];exact h0
 |t::ts,h=>by
  rw[depL]
  have:=h t (by simp)
  have:=depL_le q D h0 ts (fun x hx=>h x (by simp[hx]))
  omega
end Go.Proofs.YtbbeciofgnkggaaGreatDoor.tre
end
