import Derived.Test.YtgbkolonhddolaaGreatDoorBpLin2
import Derived.Deep.QuietTactic
import Derived.BigQuiet
import Derived.Laws.IdiomStrings
import Derived.Laws.BitsLemmas
import Derived.Laws.ResultCell
import Derived.WalkSmall
import Derived.Handy
set_option linter.unusedSimpArgs false
set_option linter.unusedVariables false
set_option maxRecDepth 100000
set_option maxHeartbeats 2000000
namespace Go.Proofs.YtgbkolonhddolaaGreatDoor.lin
open Go.RowKit Go.Shelf
attribute [local go_sem] Oper.semAt_some
theorem Ky:(Tryz.prog.info? 62).map (fun i=>(i.zero,i.size,i.bytes))=some (some (.slice none 0 0),1,24):=by kernel_rfl
def rowOf(x:ByteArray):List (List ByteArray):=if(bR x).length=0 then[]else[bR x]
def rowsOf(ls:List ByteArray):List (List ByteArray):=ls.flatMap rowOf
theorem qw(pre:List ByteArray)(x:ByteArray):rowsOf (pre++[x])=rowsOf pre++rowOf x:=by simp[rowsOf]
theorem BL(pre:List ByteArray):(rowsOf pre).length≤pre.length:=by
 induction pre with
 |nil=>exact Nat.le_refl _
 |cons x pre ih=>
  have:(rowOf x).length≤1:=by unfold rowOf;split<;>simp
  simp only[rowsOf,List.flatMap_cons,List.length_append,List.length_cons]at*
  omega
/--v is a slice of rows of strings, a row of its own from base on. -/
def dF(w:World)(base:Nat)(v:Value)(rs:List (List ByteArray)):Prop:=
 ∃L:List (Value×List ByteArray),L.map (·.2)=rs∧w.ownsRow base 62 1 v L.length (L.map (·.1))∧∀q∈L,DL w base q.1 q.2
theorem DL.Bp{D:Nat→Prop}{A B:World}{base:Nat}{v:Value}{fs:List ByteArray}(t:TypeId)(ht:t≠9)(h:DL A base v fs)(tt:aj D A B)(hd:∀k,D k→k<base∨(∃cur,A.heap[k]?=some (.cells cur t (0,0)))):DL B base v fs:=by
 obtain⟨g,off,cap,cur,rfl,hg,hgg,hc⟩:=h
 refine⟨g,off,cap,cur,rfl,hg,(tt.block g (Array.getElem?_eq_some_iff.1 hgg).1 (fun d=>?_)).trans hgg,hc⟩
 rcases hd g d with h|⟨cur',h⟩
 ·omega
 ·rw[hgg]at h;cases h;exact ht rfl
theorem dF.turns{D:Nat→Prop}{A B:World}{base:Nat}{v:Value}{rs:List (List ByteArray)}(h:dF A base v rs)(t:aj D A B)(hd:∀k,D k→k<base):dF B base v rs:=by
 obtain⟨L,hL,ho,hf⟩:=h
 exact⟨L,hL,t.own ho (fun k e d=>by have:=(ho.lt k e).1;have:=hd k d;omega),fun q hq=>(hf q hq).Bp 62 (by decide) t (fun k d=>.inl (hd k d))⟩
theorem dF.kept{A B:World}{base:Nat}{v:Value}{rs:List (List ByteArray)}(h:dF A base v rs)(hb:Below A.heap.size A B):dF B base v rs:=h.turns (D:=fun _=>False) (.of_below hb) (fun _ h=>h.elim)
theorem dF.nil(w:World)(base:Nat):dF w base (.slice none 0 0) []:=⟨[],rfl,World.ownsRow_nil _ _ _ _,fun _ h=>by cases h⟩
theorem dF.lower{w:World}{base Aw:Nat}{v:Value}{rs:List (List ByteArray)}(h:dF w Aw v rs)(hb:base≤Aw):dF w base v rs:=by
 obtain⟨L,hL,ho,hf⟩:=h
 exact⟨L,hL,jP ho hb,fun q hq=>(hf q hq).lower hb⟩
theorem dF.push{A B:World}{base:Nat}{v v':Value}{L:List (Value×List ByteArray)}{fv:Value}{fs:List ByteArray}(hf:∀q∈L,DL A base q.1 q.2)(ho:A.ownsRow base 62 1 v L.length (L.map (·.1)))(hF:DL A base fv fs)(hgrow:A.grownBy B v.ownBlock)
  (hown:B.ownsRow base 62 1 v' (L.length+1) (L.map (·.1)++[fv])):dF B base v' (L.map (·.2)++[fs]):=by
 have t:aj (fun k=>∃cur,A.heap[k]?=some (.cells cur 62 (0,0))) A B:=.aF hgrow (Gf ho)
 refine⟨L++[(fv,fs)],by rw[List.map_append];rfl,by rw[List.length_append,List.map_append];exact hown,fun q hq=>?_⟩
 rcases List.mem_append.1 hq with hq|hq
 ·exact(hf q hq).Bp 62 (by decide) t (fun k d=>.inr d)
 ·obtain rfl:=List.mem_singleton.1 hq
  exact hF.Bp 62 (by decide) t (fun k d=>.inr d)
/--Between two rounds. -/
structure RI(w0:World)(pre:List ByteArray)(W:World):Prop where
 out:∃v,Boxed W w0.heap.size 150 v∧dF W (w0.heap.size+6) v (rowsOf pre)
 low:Below w0.heap.size w0 W
theorem RI.turns{w0:World}{pre:List ByteArray}{A B:World}{D:Nat→Prop}(h:RI w0 pre A)(t:aj D A B)(hd:∀k,D k→w0.heap.size+1≤k∧k<w0.heap.size+6):RI w0 pre B:=by
 obtain⟨v,hv,hr⟩:=h.out
 exact⟨⟨v,t.boxed hv (fun d=>by have:=hd _ d;omega),hr.turns t (fun k d=>(hd k d).2)⟩,h.low.trans (t.below h.low.size (fun k d=>by have:=hd k d;omega))⟩
theorem four(w:World)(A0 A1 A2 A3:Obj){W:World}(hW:W=(((w.alloc A0).alloc A1).alloc A2).alloc A3):
  W.heap.size=w.heap.size+4∧Below w.heap.size w W∧W.heap[w.heap.size]?=some A0∧W.heap[w.heap.size+1]?=some A1∧W.heap[w.heap.size+2]?=some A2∧W.heap[w.heap.size+3]?=some A3:=by
 have old:∀(V:World)(o o':Obj)(k:Nat),V.heap[k]?=some o→(V.alloc o').heap[k]?=some o:=fun V o o' k h=>(Below.heap_alloc V o' k (Array.getElem?_eq_some_iff.1 h).1).trans h
 have new:∀(V:World)(o:Obj)(k:Nat),V.heap.size=k→(V.alloc o).heap[k]?=some o:=fun V o k h=>by rw[←h];exact World.alloc_heap_new V o
 subst hW
 refine⟨by simp,?_,?_,?_,?_,?_⟩
 ·exact((((Below.refl _ w).alloc (Nat.le_refl _) _).alloc (by simp) _).alloc (by simp;omega) _).alloc (by simp;omega) _
 ·exact old _ _ _ _ (old _ _ _ _ (old _ _ _ _ (new _ _ _ rfl)))
 ·exact old _ _ _ _ (old _ _ _ _ (new _ _ _ (by simp)))
 ·exact old _ _ _ _ (new _ _ _ (by simp))
 ·exact new _ _ _ (by simp)
theorem JA(s:ByteArray)(w:World)(hs:s.size≤1073741824):
  Calls Tryz.prog 122 #[.string s] w fun e w'=>∃v,e=.returned v∧dF w' w.heap.size v (rowsOf (cutV s 10))∧Below w.heap.size w w':=by
 obtain⟨i0,hi,hz0,hy1,hz2⟩:=info_parts Ky
 refine callsIn_wide (n:=9)|>.1 ?_
 refine callsIn_of_wp_marks Tryz.func122 rfl trivial ?_ rfl
 simp only[Tryz.ntmps122,List.size_toArray,List.length_cons,List.length_nil,Nat.reduceAdd,Nat.reduceSub,Array.replicate_succ,Array.replicate_zero,List.push_toArray,List.append_toArray,List.nil_append,List.cons_append]
 gi_wp2
 refine⟨trivial,(callsIn_wide.2 (xU s _)).mono ?_⟩
 rintro e w'⟨rfl,hw'⟩
 simp only[World.size_alloc,Nat.add_assoc,Nat.reduceAdd]at hw'⊢
 gi_wp2
 obtain⟨hsz,hB,b0,b1,b2,b3⟩:=four w _ _ _ _ hw'
 clear hw'
 refine vB (c:=w.heap.size+1) (lo:=w.heap.size+1) rfl (enters_of Tryz.func175 (by kernel_rfl) rfl) (by omega) (by omega) (yQ _ (w.heap.size+1) s w' (by omega) ⟨b1,b2,b3⟩) (fun _=>rfl)
  (RI w) (fun _ _=>False) (fun _ A B h t=>h.turns t (fun k d=>by omega)) (fun _ A B h t=>h)
  ⟨⟨_,b0,dF.nil _ _⟩,hB⟩
  (fun x=>{tmps:=#[.string s,undef,.slice none 0 0,.pointer (some ⟨w.heap.size,0,none⟩),.string x,undef,.string s,
   .func (.func 175) #[] #[.pointer (some ⟨w.heap.size+2,0,none⟩),.pointer (some ⟨w.heap.size+1,0,none⟩),.pointer (some ⟨w.heap.size+3,0,none⟩)],.string x,undef,undef,undef,undef,undef,undef,undef,undef,undef,undef],defers:=[]}) ?assign ?body ?done ?stop
 case assign=>
  intro l x W K hK
  gi_wp2
  exact hK
 case body=>
  intro l pre x rest W hx hI hge
  have hxm:x∈cutV s 10:=by rw[hx];simp
  have hxs:x.size≤s.size:=Hz _ _ _ _ _ x hxm
  have hpl:pre.length≤s.size:=by
   have h1:=Lh s 10 s.size 0 0
   have h2:(cutV s 10).length=pre.length+(rest.length+1):=by rw[hx];simp
   unfold cutV at h2
   omega
  obtain⟨v,hv,hrec⟩:=hI.out
  gi_wp2
  refine⟨trivial,(CallsIn.inRound l (callsIn_wide.2 (kG x _ (by omega)))).mono ?_⟩
  rintro e W2⟨fv,rfl,hown,hbel⟩
  have hs2:=hbel.size
  have hv2:Boxed W2 w.heap.size 150 v:=(hbel.block _ hv.lt).trans hv
  have hrec2:=hrec.kept hbel
  have Ki:=hI.low.trans (hbel.mono hI.low.size)
  have hlow:=hI.low.size
  have tn:aj (fun k=>k=w.heap.size∨w.heap.size+6≤k) W W2:=.of_below hbel
  cases hfs:bR x with
  |nil=>
   rw[hfs]at hown
   obtain⟨sa,sc,rfl⟩:=cZ hown
   have HG:Hid (uJ (w.heap.size+1) (w'.heap.size+2) W W2∧RI w (pre++[x]) W2):=by
    refine⟨tn.keep hge (fun k h=>by omega),⟨⟨v,hv2,?_⟩,Ki⟩⟩
    rw[qw,show rowOf x=[]from by unfold rowOf;rw[hfs];rfl,List.append_nil];exact hrec2
   gi_wp2
   exact HG.out
  |cons f fs=>
   rw[hfs]at hown
   have hF:DL W2 (w.heap.size+6) fv (f::fs):=by
    obtain⟨fa,fc,rfl,hfrow⟩:=strRow hown
    obtain⟨g2,rfl,hg1,hg2,hfc1,hfc2,⟨cur,hcur,hcc⟩,hfcell⟩:=hfrow (by simp)
    exact⟨g2,0,fc,cur,rfl,by omega,hcur,fun j hj=>by
     rw[Nat.zero_add,hcc j _ (List.getElem?_eq_getElem hj),List.getD_eq_getElem?_getD,List.getElem?_eq_getElem hj];rfl⟩
   obtain⟨L,hL,ho,hf⟩:=hrec2
   have hLl:L.length≤pre.length:=by
    have h1:=BL pre
    have h2:=congrArg List.length hL
    rw[List.length_map]at h2
    omega
   have HOW:Hid (∀k,v.ownBlock=some k→w.heap.size+6≤k):=fun k e=>(ho.lt k e).1
   have HF:Hid (DL W2 (w.heap.size+6) fv (f::fs)):=hF
   have HFF:Hid (∀q∈L,DL W2 (w.heap.size+6) q.1 q.2):=hf
   have HL:Hid (L.map (·.2)=rowsOf pre):=hL
   have HO:Hid (W2.ownsRow (w.heap.size+6) 62 1 v L.length (L.map (·.1))):=ho
   have HRX:Hid (rowOf x=[f::fs]):=by unfold Hid rowOf;rw[hfs];rfl
   obtain⟨va,vc,rfl⟩:=cZ ho
   obtain⟨fg,fo,fc,fcur,rfl,_⟩:=hF
   have cv:=hv2.cell
   have BV:Hid (Boxed W2 w.heap.size 150 (.slice va L.length vc)):=hv2
   clear hown hL ho hf hv hrec hxm hx hbel hfs hI hv2
   have t0:(0:Int)<(fs.length:Int)+1:=by omega
   gi_wp2_with(gi_at_builtin;refine wpListIn_append_own _ rfl _ _ 150 rfl (w.heap.size+6) 62 i0 (.slice none 0 0) 1 24 Tryz.underlying150 hi hz0 hy1 hz2 rfl (by decide) _ _ _ rfl (HO.out.alloc _) ⟨W2.heap.size,0,none⟩ 1 1 [.slice (some ⟨fg,fo,none⟩) (fs.length+1) fc] rfl rfl (cell_one_new _ _ _) (by simp[Value.oneCell']) (by unfold maxLen;omega) (by omega) (by simp;omega) ?_)
   intro v' w4 di hgrow _
   obtain⟨va',vc',rfl⟩:=cZ di
   have v4:Boxed w4 w.heap.size 150 (.slice va L.length vc):=(BV.out.alloc _).kept hgrow (fun e=>by have:=HOW.out _ e.symm;omega)
   have HR:Hid (uJ (w.heap.size+1) (w'.heap.size+2) W (w4.setCell ⟨w.heap.size,0,none⟩ (.slice va' (L.length+1) vc'))∧RI w (pre++[x]) (w4.setCell ⟨w.heap.size,0,none⟩ (.slice va' (L.length+1) vc'))):=by
    have t5:aj (fun k=>k=w.heap.size∨w.heap.size+6≤k) W (w4.setCell ⟨w.heap.size,0,none⟩ (.slice va' (L.length+1) vc')):=
     ((tn.alloc _).trans (.aF hgrow (fun k e=>.inr (HOW.out k e)))).set w.heap.size _ (.inl rfl)
    have hal:∀o,Below W2.heap.size W2 (W2.alloc o):=fun o=>(Below.refl _ W2).alloc (Nat.le_refl _) _
    have hp:dF w4 (w.heap.size+6) (.slice va' (L.length+1) vc') (rowsOf (pre++[x])):=by
     rw[qw,HRX.out,←HL.out]
     exact dF.push (fun q hq=>(HFF.out q hq).kept (hal _)) (HO.out.alloc _) (HF.out.kept (hal _)) hgrow di
    refine⟨t5.keep hge (fun k h=>by omega),⟨⟨_,v4.set _,?_⟩,?_⟩⟩
    ·exact hp.turns (aj.set (D:=fun k=>k=w.heap.size) (aj.refl _ w4) w.heap.size _ rfl) (fun k d=>by omega)
    ·have hl:Below w.heap.size w4 (w4.setCell ⟨w.heap.size,0,none⟩ (.slice va' (L.length+1) vc')):=(aj.set (D:=fun k=>k=w.heap.size) (aj.refl _ w4) w.heap.size _ rfl).below (by have:=v4.lt;omega) (fun k d=>by omega)
     have hl4:Below w.heap.size w w4:=(Ki.alloc Ki.size _).grown hgrow (by have:=Ki.size;simp;omega) (fun k e=>by have:=HOW.out k e;omega)
     exact hl4.trans hl
   have c4:=v4.cell
   have f4:=v4.frozen
   clear hgrow di v4 Ki tn
   gi_wp2
   exact HR.out
 case done=>
  intro W hI hd
  obtain⟨v,hv,hr⟩:=hI.out
  obtain⟨va,vc,rfl⟩:∃va vc,v=.slice va (rowsOf (cutV s 10)).length vc:=by
   obtain⟨L,hL,ho,_⟩:=hr
   rw[←hL,List.length_map]
   exact cZ ho
  have HT:Hid (dF (W.putObj w'.heap.size (.deferred none)) w.heap.size (.slice va (rowsOf (cutV s 10)).length vc) (rowsOf (cutV s 10))∧Below w.heap.size w (W.putObj w'.heap.size (.deferred none))):=by
   have tp:aj (fun k=>k=w'.heap.size) W (W.putObj w'.heap.size (.deferred none)):=aj.put (D:=fun k=>k=w'.heap.size) (aj.refl _ W) w'.heap.size _ rfl
   exact⟨(hr.turns tp (fun k d=>by omega)).lower (by omega),hI.low.trans (tp.below hI.low.size (fun k d=>by omega))⟩
  have c3:=hv.cell
  clear hI hv hr
  gi_wp2
  refine⟨by simp,.inl ⟨_,_,rfl,run_takeDeferred hd,?_⟩⟩
  refine⟨_,results_tmp (t:=2) rfl _ _ _,.slice va (rowsOf (cutV s 10)).length vc,rfl,HT.out⟩
 case stop=>
  intro pre W hI hd
  exact hI.elim
end Go.Proofs.YtgbkolonhddolaaGreatDoor.lin
namespace Go.Proofs.YtgbkolonhddolaaGreatDoor.lin
open Go.RowKit
end Go.Proofs.YtgbkolonhddolaaGreatDoor.lin
namespace Go.Proofs.YtgbkolonhddolaaGreatDoor.lin
open Go.RowKit
/--A digit, great. -/
def dU(n:Nat):UInt8:=if n<10 then UInt8.ofNat (48+n)else UInt8.ofNat (55+n)
/--The digits of a number, great; none of 0. -/
def il(n:Nat):List UInt8:=if h:n=0 then[]else il (n/16)++[dU (n%16)]
termination_by n
decreasing_by omega
/--Four digits at least. -/
def pointL(n:Nat):List UInt8:=List.replicate (4-(il n).length) 48++il n
/--What is still to come of a number, ahead of k digits. -/
def ahead(r k:Nat):List UInt8:=List.replicate (4-k-(il r).length) 48++il r
end Go.Proofs.YtgbkolonhddolaaGreatDoor.lin
namespace Go.Proofs.YtgbkolonhddolaaGreatDoor.lin
open Go.RowKit
/--A digit, small. -/
def dL(n:Nat):UInt8:=if n<10 then UInt8.ofNat (48+n)else UInt8.ofNat (87+n)
def fO(n:Nat):List UInt8:=if h:n<16 then[dL n]else fO (n/16)++[dL (n%16)]
termination_by n
decreasing_by omega
theorem kC(n:Nat)(h:n<16):fO n=[dL n]:=by rw[fO,dif_pos h]
theorem pO(n:Nat)(h:16≤n):fO n=fO (n/16)++[dL (n%16)]:=by rw[fO,dif_neg (by omega)]
theorem sF:∀k n,n<16^(k+1)→(fO n).length≤k+1:=by
 intro k
 induction k with
 |zero=>intro n h;rw[kC n (by simpa using h)];simp
 |succ k ih=>
  intro n h
  rcases Nat.lt_or_ge n 16 with hn|hn
  ·rw[kC n hn];simp
  ·rw[pO n hn,List.length_append,List.length_singleton]
   have:=ih (n/16) (by rw[Nat.pow_succ]at h;omega)
   omega
theorem Kh(n:Nat):1≤(fO n).length:=by
 rcases Nat.lt_or_ge n 16 with hn|hn
 ·rw[kC n hn];simp
 ·rw[pO n hn,List.length_append,List.length_singleton];omega
theorem Bc(n:Int)(h₀:0≤n)(h₁:n<2^63):IntKind.u64.wrap n=n:=by
 simp[IntKind.wrap,IntKind.bits,IntKind.signed]
 omega
theorem E8(x:Nat)(h:x≤1152921504606846975):bits .and .u64 (x:Int) 15=((x%16:Nat):Int):=by
 have:=bits_mask .u64 63 (by decide) Bc 4 (by decide) (x:Int) (by omega) (by omega)
 exact this
def Ht:ByteArray:=⟨#[48,49,50,51,52,53,54,55,56,57,97,98,99,100,101,102,103,104,105,106,107,108,109,110,111,112,113,114,115,116,117,118,119,120,121,122]⟩
theorem Lf:∀d:Fin 16,(Ht[d.val]'(Nat.lt_of_lt_of_le d.isLt (by decide))).toNat=(dL d.val).toNat:=by decide+kernel
theorem Ae(d:Nat)(h:d<16)(hk:d<Ht.size):(Ht[d]'hk).toNat=(dL d).toNat:=Lf ⟨d,h⟩
/--The array's cells from m on are the digits D. -/
def uI(w:World)(A m:Nat)(D:List UInt8):Prop:=
 ∃cur,w.heap[A]?=some (.cells cur 193 (0,0))∧cur.size=65∧m+D.length=65∧∀(j:Nat)(x:UInt8),D[j]?=some x→cur[m+j]?=some (.int .u8 x.toNat)
theorem uI.put{w:World}{A m:Nat}{D:List UInt8}(h:uI w A (m+1) D)(x:UInt8):uI (w.setCell ⟨A,m,none⟩ (.int .u8 x.toNat)) A m (x::D):=by
 obtain⟨cur,h1,h2,h3,h4⟩:=h
 refine⟨_,heap_setCell_same w A m cur _ _ h1,by rw[Array.size_setIfInBounds];exact h2,by simp;omega,?_⟩
 intro j y hy
 cases j with
 |zero=>
  simp at hy
  subst hy
  rw[Nat.add_zero,Array.getElem?_setIfInBounds_self_of_lt (by omega)]
 |succ j=>
  rw[Array.getElem?_setIfInBounds_ne (by omega),show m+(j+1)=m+1+j from by omega]
  exact h4 j y (by simpa using hy)
theorem ET(w:World)(h:w.cell? ⟨7,15,none⟩=some (.int .u8 4)):
  Calls Tryz.prog 173 #[.int .u64 16] w fun e w'=>e=.returned (.int .i64 4)∧w'=w:=by
 have e1:bits BinOp.and IntKind.u64 16 (IntKind.u64.wrap (-16))=16:=by kernel_rfl
 have e2:IntKind.u64.wrap 4573923408821661840=4573923408821661840:=by kernel_rfl
 go_enter Tryz.func173,Tryz.ntmps173
 go_wp2
 go_ret
 exact⟨rfl,rfl⟩
theorem FY(w:World):Calls Tryz.prog 172 #[.int .i64 16] w fun e w'=>e=.returned (.bool true)∧w'=w:=by
 have e1:bits BinOp.and IntKind.i64 16 15=0:=by kernel_rfl
 go_enter Tryz.func172,Tryz.ntmps172
 go_wp2
 go_ret
 exact⟨rfl,rfl⟩
theorem LG(n:Nat)(w:World)(hn:n≤1152921504606846975)(h:w.cell? ⟨7,15,none⟩=some (.int .u8 4))(hlt:7<w.heap.size):
  Calls Tryz.prog 156 #[.slice none 0 0,.int .u64 n,.int .i64 16,.bool false,.bool false] w fun e w'=>e=.returned (.tuple #[.slice none 0 0,.string (BA (fO n))])∧Below w.heap.size w w':=by
 go_enter Tryz.func156,Tryz.ntmps156
 have TZ:∀o,Calls Tryz.prog 173 #[.int .u64 16] (w.alloc o) fun e w'=>e=.returned (.int .i64 4)∧w'=w.alloc o:=fun o=>ET _ ((World.cell?_of_block (w:=w) (a:=⟨7,15,none⟩) (Below.heap_alloc _ _ _ hlt)).trans h)
 go_wp2_with fail
 refine(FY _).mono ?_
 rintro e w'⟨rfl,rfl⟩
 go_wp2_with fail
 refine(TZ _).mono ?_
 rintro e w'⟨rfl,rfl⟩
 clear TZ
 have hT0:uI (w.alloc (.cells Tryz.zeroCells193 193)) w.heap.size 65 []:=⟨_,World.alloc_heap_new w _,by kernel_rfl,rfl,fun j x hx=>by simp at hx⟩
 have hB0:Below w.heap.size w (w.alloc (.cells Tryz.zeroCells193 193)):=(Below.refl _ w).alloc (Nat.le_refl _) _
 have yC:Hid ((fO n).length≤16):=sF 15 n (by omega)
 have HT0:Hid (uI (w.alloc (.cells Tryz.zeroCells193 193)) w.heap.size 65 []):=hT0
 clear hT0 h hlt
 generalize w.alloc (.cells Tryz.zeroCells193 193)=W0 at*
 go_wp2
 go_loopg[1,13]n(fun k v t wr=>∃(u m:Nat)(D:List UInt8),v=.int .u64 u∧t=.int .i64 m∧k=u∧u≤n∧m≤65∧D.length≤15∧Hid (fO u++D=fO n)∧Hid (uI wr w.heap.size m D)∧Below w.heap.size w wr)
 case atStart=>exact⟨n,65,[],rfl,rfl,rfl,Nat.le_refl _,Nat.le_refl _,by simp,by rw[Hid,List.append_nil],HT0,hB0⟩
 case round=>
  clear HT0 hB0
  obtain⟨u,m,D,rfl,rfl,IC,hun,hm65,hD,HH,HT,hbel⟩:=hrel
  have HGK:Hid (gk=u):=IC
  clear IC
  obtain⟨cur,hc1,hc2,hc3,_⟩:=HT.out
  obtain⟨m',rfl⟩:∃m',m=m'+1:=⟨m-1,by omega⟩
  obtain⟨cv,cm⟩:∃cv,wr.cell? ⟨w.heap.size,m',none⟩=some cv:=⟨cur[m']'(by omega),by rw[cell_of_row wr w.heap.size m' cur _ _ hc1];exact Array.getElem?_eq_getElem (by omega)⟩
  have fm:=frozen_of_row wr w.heap.size m' cur _ hc1
  have Cz:=E8 u (by omega)
  have hsz:Ht.size=36:=rfl
  by_cases hu:16≤u
  ·have gm:u%16<16:=Nat.mod_lt _ (by decide)
   have t1:(16:Int)≤(u:Int):=by omega
   have hdg:=Ae (u%16) gm (by omega)
   unfold Ht at hdg
   have R1:Hid (uI (wr.setCell ⟨w.heap.size,m',none⟩ (.int .u8 ((dL (u%16)).toNat:Int))) w.heap.size m' (dL (u%16)::D)):=HT.out.put _
   have R2:Hid (fO (u/16)++(dL (u%16)::D)=fO n):=by
    rw[Hid,←HH.out,pO u hu,List.append_assoc];rfl
   have R3:Hid ((dL (u%16)::D).length≤15):=by
    have h1:=congrArg List.length R2.out
    rw[List.length_append]at h1
    have h2:=Kh (u/16)
    have h3:=yC.out
    rw[Hid];omega
   have R4:=hbel.setCell (p:=⟨w.heap.size,m',none⟩) (Nat.le_refl _) (.int .u8 ((dL (u%16)).toNat:Int))
   clear hc1 hc3 HT HH hbel
   go_wp2
   go_roundg(u/16)
   case measure=>have:=HGK.out;omega
   case rel=>exact⟨u/16,m',dL (u%16)::D,rfl,rfl,rfl,by omega,by omega,R3.out,R2,R1,R4⟩
  ·have t1:¬(16:Int)≤(u:Int):=by omega
   have hdg:=Ae u (by omega) (by omega)
   unfold Ht at hdg
   have R1:=HT.out.put (dL u)
   have HE:Hid (fO n=dL u::D):=by
    rw[Hid,←HH.out,kC u (by omega)];rfl
   have R4:=hbel.setCell (p:=⟨w.heap.size,m',none⟩) (Nat.le_refl _) (.int .u8 ((dL u).toNat:Int))
   have hcv:(convert 22 9 (.slice (some ⟨w.heap.size,m',none⟩) (65-m') (65-m'))).run Tryz.prog (wr.setCell ⟨w.heap.size,m',none⟩ (.int .u8 ((dL u).toNat:Int)))=.ok (.string (BA (fO n))) (wr.setCell ⟨w.heap.size,m',none⟩ (.int .u8 ((dL u).toNat:Int))):=by
    obtain⟨cur2,k1,k2,k3,k4⟩:=R1
    have hk:(fO n).length=65-m':=by rw[HE.out];omega
    have hh:=run_convert_bytes_back (P:=Tryz.prog) (wr.setCell ⟨w.heap.size,m',none⟩ (.int .u8 ((dL u).toNat:Int))) 22 9 5 ⟨w.heap.size,m',none⟩ (65-m') (fO n) Tryz.underlying22 Tryz.underlying5 Tryz.underlying9 (fun j hj=>by
     rw[Addr.add_lit,cell_of_row _ _ _ cur2 _ _ k1]
     exact k4 j _ (by rw[←HE.out];exact List.getElem?_eq_getElem hj))
    rw[hk]at hh
    exact hh
   have hsl:(Instr.sliceAt 193 (.pointer (some ⟨w.heap.size,0,none⟩)) (some (.int .i64 m')) none none).run Tryz.prog (wr.setCell ⟨w.heap.size,m',none⟩ (.int .u8 ((dL u).toNat:Int)))=.ok (.slice (some ⟨w.heap.size,m',none⟩) (65-m') (65-m')) (wr.setCell ⟨w.heap.size,m',none⟩ (.int .u8 ((dL u).toNat:Int))):=by
    generalize(wr.setCell ⟨w.heap.size,m',none⟩ (.int .u8 ((dL u).toNat:Int)))=W
    have hal:Tryz.prog.arrayLen 193=65:=by simp[Program.arrayLen,Tryz.underlying193]
    have hel:Tryz.prog.elem 193=5:=by simp[Program.elem,Tryz.underlying193]
    rw[run_sliceAt_array_l W 193 ⟨w.heap.size,0,none⟩ (by rw[hal,hel];exact Tryz.underlying193) .i64 (m':Int) (by omega) (by rw[hal];omega),hal,hel]
    have hz1:(sizeOf 5).run Tryz.prog W=.ok 1 W:=by
     obtain⟨iu,hiu,_,hs1,_⟩:=info_parts (P:=Tryz.prog) (e:=5) (z:=.int .u8 0) (size:=1) (bytes:=1) (by kernel_rfl)
     simp[sizeOf,typeInfo,hiu,hs1]
    rw[hz1]
    show Result.ok (slicedAt ⟨w.heap.size,0,none⟩ (m':Int).toNat 65 65 1) W=_
    unfold slicedAt
    rw[if_neg (by omega),Addr.add_lit,Int.toNat_natCast,Nat.zero_add,Nat.mul_one]
   clear hc1 hc3 HT HH hbel R1
   go_wp2
   go_ret2
   exact⟨rfl,R4⟩
theorem KD(n:Nat)(w:World)(hn:n≤1152921504606846975)(h:w.cell? ⟨7,15,none⟩=some (.int .u8 4))(hlt:7<w.heap.size):
  Calls Tryz.prog 134 #[.int .i64 n,.int .i64 16] w fun e w'=>e=.returned (.string (BA (fO n)))∧Below w.heap.size w w':=by
 have BI:=LG n w hn h hlt
 have t0:¬(n:Int)<0:=by omega
 clear h
 go_enter Tryz.func134,Tryz.ntmps134
 go_wp2_with fail
 refine BI.mono ?_
 rintro e w2⟨rfl,hb⟩
 go_wp2
 go_ret
 exact⟨rfl,hb⟩
theorem EA(n:Nat)(w:World)(hn:n≤1152921504606846975)(h:w.cell? ⟨7,15,none⟩=some (.int .u8 4))(hlt:7<w.heap.size):
  Calls Tryz.prog 110 #[.int .i64 n,.int .i64 16] w fun e w'=>e=.returned (.string (BA (fO n)))∧Below w.heap.size w w':=by
 have BI:=KD n w hn h hlt
 clear h
 go_enter Tryz.func110,Tryz.ntmps110
 go_wp2_with fail
 refine BI.mono ?_
 rintro e w2⟨rfl,hb⟩
 go_wp2
 go_ret
 exact⟨rfl,hb⟩
end Go.Proofs.YtgbkolonhddolaaGreatDoor.lin
