import Derived.Test.YtgbkolonhddolaaGreatDoorBpUtf1
import Derived.Test.YtgbkolonhddolaaGreatDoorBpRng1
import Derived.Test.YtgbkolonhddolaaGreatDoorBpTok1
import Derived.Deep.MidRow
import Derived.Laws.Rows
import Derived.Deep.AppendSrc
import Derived.Lib.ConvBytes
import Derived.Laws.AppendOwn
import Derived.Test.YtgbkolonhddolaaGreatDoorBpPrs15
import Derived.Test.YtgbkolonhddolaaGreatDoorBpPrs14
import Derived.Test.YtgbkolonhddolaaGreatDoorBpTre1
import Derived.Lib.SlBytesConst
set_option linter.unusedSimpArgs false
set_option linter.unusedVariables false
set_option maxRecDepth 100000
set_option maxHeartbeats 8000000
theorem Go.Proofs.YtgbkolonhddolaaGreatDoor.hd14{p:Prop}(h:p):Go.RowKit.Hid p:=h
namespace Go.Proofs.YtgbkolonhddolaaGreatDoor.prs
open Go.RowKit
/--A row of bytes, of block B or behind it, none of it frozen: byte i is f i. -/
def IV(w:World)(B:Nat)(v:Value)(n:Nat)(f:Nat→Int):Prop:=∃g cap,v=.slice (some ⟨g,0,none⟩) n cap∧B≤g∧g<w.heap.size∧n≤cap∧cap≤maxLen∧
 (∀j,j<n→w.cell? ⟨g,j,none⟩=some (.int .u8 (f j)))∧∀j,j<cap→(w.cell? ⟨g,j,none⟩).isSome=true∧w.frozen? ⟨g,j,none⟩=false
def kV(f:Nat→Int)(n:Nat)(h:Nat→Int):Nat→Int:=fun i=>if i<n then f i else h (i-n)
theorem IV.below{w w':World}{B:Nat}{v:Value}{n:Nat}{f:Nat→Int}(h:IV w B v n f)(hb:Below w.heap.size w w'):IV w' B v n f:=by
 obtain⟨g,cap,rfl,h1,h2,h3,h4,h5,h6⟩:=h
 exact⟨g,cap,rfl,h1,Nat.lt_of_lt_of_le h2 hb.size,h3,h4,fun j hj=>(hb.cell (p:=⟨g,j,none⟩) h2).trans (h5 j hj),fun j hj=>by rw[hb.cell (p:=⟨g,j,none⟩) h2,World.frozen?_of_block (a:=⟨g,j,none⟩) (hb.block g h2)];exact h6 j hj⟩
theorem IV.isB{w:World}{B:Nat}{v:Value}{n:Nat}{f:Nat→Int}(h:IV w B v n f):∃ao cap,v=.slice ao n cap∧utf.oM w ao n f∧n≤cap∧cap≤9223372036854775807:=by
 obtain⟨g,cap,rfl,h1,h2,h3,h4,h5,h6⟩:=h
 exact⟨_,cap,rfl,.inr ⟨g,0,rfl,fun i hi=>by rw[Nat.zero_add];exact h5 i hi⟩,h3,h4⟩
def Fw(s:ByteArray):Nat→Int:=fun i=>((s.data.toList.getD i 0).toNat:Int)
theorem conv_br(w:World)(s:ByteArray)(hs:s.size≤9223372036854775807):∃v w',(convert 9 22 (.string s)).run Tryz.prog w=.ok v w'∧IV w' w.heap.size v s.size (Fw s)∧Below w.heap.size w w':=by
 have hge:=grownCap_ge w s.size 0 5
 have hz:=Lib.bytesWorld_size w 5 s
 have hat:=Lib.bytesWorld_at_new w 5 s
 have hsz:(Lib.bytesCells w 5 s).size=grownCap w s.size 0 5:=by
  unfold Lib.bytesCells
  rw[Array.size_append,Array.size_map,Array.size_replicate]
  have:s.data.size=s.size:=rfl
  omega
 refine⟨_,_,Lib.run_convert_string_bytes (P:=Tryz.prog) w 9 22 5 s Tryz.underlying9 Tryz.underlying22 Tryz.underlying5,
  ⟨w.heap.size,_,rfl,Nat.le_refl _,by omega,hge,grownCap_le_maxLen w s.size 0 5 (by unfold maxLen;omega),fun j hj=>Lib.bytesWorld_cell w _ s j hj,fun j hj=>⟨?_,?_⟩⟩,⟨rfl,rfl,rfl,by rw[Lib.bytesWorld_size];omega,fun k hk=>Lib.bytesWorld_at_old w _ s k hk⟩⟩
 ·unfold World.cell?
  simp only[hat]
  simp[Array.getElem?_eq_getElem (show j<(Lib.bytesCells w 5 s).size by omega)]
 ·unfold World.frozen?
  simp only[hat]
  simp
  omega
def qI(f:Nat→Int)(n:Nat):List Value:=(List.range n).map fun i=>.int .u8 (f i)
theorem dO(f:Nat→Int)(n:Nat):(qI f n).length=n:=by simp[qI]
theorem lF{f:Nat→Int}{n j:Nat}(h:j<n):(qI f n)[j]?=some (.int .u8 (f j)):=by simp[qI,h]
theorem vI{f:Nat→Int}{n j:Nat}{u:Value}(h:(qI f n)[j]?=some u):j<n∧u=.int .u8 (f j):=by
 have hj:j<n:=by rw[←dO f n];exact(List.getElem?_eq_some_iff.1 h).1
 rw[lF hj]at h
 exact⟨hj,(Option.some.inj h).symm⟩
theorem info8:(Tryz.prog.info? 5).map (fun i=>(i.zero,i.size,i.bytes))=some (some (.int .u8 0),1,1):=by kernel_rfl
theorem iR{B g:Nat}(hg:B≤g):∀(vs:List Value)(o:Nat){v w:World},Below B v w→Below B v (w.setCells g o vs)
 |[],o,v,w,h=>h
 |x::vs,o,v,w,h=>iR hg vs (o+1) (h.setCell hg x)
theorem src_b{w:World}{ao:Option Addr}{m c:Nat}{h:Nat→Int}(hs:utf.oM w ao m h)(hn:ao=none→m=0):Src Tryz.prog 1 22 (.slice ao m c) m (qI h m) w:=by
 cases ao with
 |none=>obtain rfl:=hn rfl;exact Src.ofNil w Tryz.underlying22 c
 |some ad=>
  refine Src.ofSlice w Tryz.underlying22 ad m c _ (by rw[dO,Nat.mul_one]) (fun j u hj=>?_) (fun u hu=>?_)
  ·obtain⟨hj1,rfl⟩:=vI hj
   rcases hs with h0|⟨b,off,e,hc⟩
   ·omega
   ·obtain rfl:=Option.some.inj e
    rw[Addr.add_lit]
    exact hc j hj1
  ·obtain⟨i,_,rfl⟩:=List.mem_map.1 hu
   rfl
theorem xQ{w:World}{B:Nat}{v:Value}{n m c:Nat}{f h:Nat→Int}{ao:Option Addr}(ty:TypeId)(hv:IV w B v n f)(hs:utf.oM w ao m h)(hn:ao=none→m=0)(hB:B≤w.heap.size)(hnm:n+m≤1000000):
  ∃v' w',(Builtin.append_ #[22,22] ty #[v,.slice ao m c]).run Tryz.prog w=.ok v' w'∧IV w' B v' (n+m) (kV f n h)∧Below B w w':=by
 obtain⟨g,cap,rfl,h1,h2,h3,h4,h5,h6⟩:=hv
 obtain⟨i,hi,hz,hsz,hby⟩:=rng.info_parts info8
 have S:=src_b (c:=c) hs hn
 have hl:=dO h m
 rcases Nat.lt_or_ge cap (n+m)with hg|hg
 ·have ho:(Builtin.firstCells i.size n (.slice (some ⟨g,0,none⟩) n cap)).run Tryz.prog w.drew=.ok (qI f n).toArray w.drew:=run_firstCells_some w.drew _ n _ _ _ _ (by rw[dO,hsz,Nat.mul_one]) fun j u hj=>by
   obtain⟨hj1,rfl⟩:=vI hj
   rw[Addr.add_lit,Nat.zero_add]
   exact h5 j hj1
  have hr:=run_append_grow_src (P:=Tryz.prog) w 22 22 ty 5 i (.int .u8 0) Tryz.underlying22 hi hz (some ⟨g,0,none⟩) n cap (qI f n) ho (.slice ao m c) m (qI h m) (by rw[hsz];exact S) hg (by omega) (growslice_fits hg (by rw[hby];omega))
  have hge:=grownCap_ge w (n+m) cap 5
  refine⟨_,_,hr,⟨w.heap.size,_,rfl,hB,by simp,hge,grownCap_le_maxLen w _ _ _ (by unfold maxLen;omega),fun j hj=>?_,fun j hj=>⟨?_,?_⟩⟩,?_⟩
  ·rw[cell_of_row _ w.heap.size j _ _ _ (World.alloc_heap_new w.drew _)]
   rw[Array.getElem?_append_left (by simp[dO];omega),List.getElem?_toArray]
   unfold kV
   by_cases hjn:j<n
   ·rw[if_pos hjn,List.getElem?_append_left (by rw[dO];exact hjn),lF hjn]
   ·rw[if_neg hjn,List.getElem?_append_right (by rw[dO];omega),dO,lF (by omega)]
  ·rw[cell_of_row _ w.heap.size j _ _ _ (World.alloc_heap_new w.drew _)]
   rw[Array.getElem?_eq_getElem (by simp[dO,size_zeroCells,Value.cells];omega)]
   rfl
  ·exact World.frozen?_alloc_new w.drew _ _ _
  ·exact((Below.refl _ w).drew.alloc hB _)
 ·have hr:=run_append_room_src (P:=Tryz.prog) w 22 22 ty 5 i Tryz.underlying22 hi g 0 n cap (.slice ao m c) m (qI h m) (by rw[hsz];exact S) hg
   (fun j hj=>by rw[hsz,Nat.mul_one,Nat.zero_add];exact(h6 (n+j) (by omega)).1) (fun j hj=>by rw[hsz,Nat.mul_one,Nat.zero_add];exact(h6 (n+j) (by omega)).2)
  rw[hsz,Nat.mul_one,Nat.zero_add]at hr
  refine⟨_,_,hr,⟨g,cap,rfl,h1,?_,hg,h4,fun j hj=>?_,fun j hj=>⟨?_,?_⟩⟩,?_⟩
  ·exact Nat.lt_of_lt_of_le h2 (World.keptBut_setCells g (may:=fun _=>True) _ _ w (fun _ _=>trivial)).size
  ·unfold kV
   by_cases hjn:j<n
   ·rw[if_pos hjn,World.cell?_setCells_out g _ _ w _ (fun _ _=>.inl hjn)]
    exact h5 j hjn
   ·rw[if_neg hjn]
    have:=World.cell?_setCells_in g (qI h m) n w (fun k hk=>(h6 (n+k) (by omega)).1) (j-n) (by omega)
    rw[show n+(j-n)=j by omega]at this
    rw[this,←List.getElem?_eq_getElem,lF (by omega)]
  ·exact World.isSome_setCells g _ _ w _ (h6 j hj).1
  ·rw[World.frozen?_setCells]
   exact(h6 j hj).2
  ·exact iR h1 _ _ (Below.refl _ _)
theorem lX{ops:Array Oper}{rest:List Oper}{o:Oper}{a:Act}{Q:Exit→Act→World→Prop}{w w':World}{v sv v':Value}(hgd:o.guard=none)(s x:Operand)(ho:o.op=.call {callee:=.builtin .append,args:=#[s,x],argTypes:=#[22,22]})(hs:a.eval s=v)(hx:a.eval x=sv)
  (hr:(Builtin.append_ #[22,22] o.type #[v,sv]).run Tryz.prog w=.ok v' w')(h:wpList Tryz.prog ops Q rest (a.put o.dst v') w'):wpList Tryz.prog ops Q (o::rest) a w:=
 wpList_plain hgd fun _ hK=>by
  unfold Oper.wp execOp
  simp only[ho,resolve,invoke,builtin,Sem.run_bind,Sem.run_pure,Result.andThen_ok,List.map_toArray,List.map_cons,List.map_nil,hs,hx,hr]
  exact hK _ _ h
end Go.Proofs.YtgbkolonhddolaaGreatDoor.prs
namespace Go.Proofs.YtgbkolonhddolaaGreatDoor.prs
open Go.RowKit nod tok
open lin(BA)
open tre(Pw)
theorem Fv(s:ByteArray)(i:Nat):0≤Fw s i∧Fw s i≤255:=by unfold Fw;have:=(s.data.toList.getD i 0).toNat_lt;omega
theorem mK{f h:Nat→Int}{n:Nat}(hf:∀i,0≤f i∧f i≤255)(hh:∀i,0≤h i∧h i≤255)(i:Nat):0≤kV f n h i∧kV f n h i≤255:=by unfold kV;split;exact hf _;exact hh _
/--Parse, of a row of the call's own. -/
theorem zi{w:World}{B:Nat}{v:Value}{n:Nat}{f:Nat→Int}(h:IV w B v n f)(E:PEnv w)(hw:Pw w)(hf:∀i,0≤f i∧f i≤255)(hn:n≤100000):Calls Tryz.prog 5 #[v] w fun e w'=>Pd w (ax bU f n) e w':=by
 obtain⟨ao,cap,rfl,hB,h1,h2⟩:=h.isB
 exact parse_any hB E hw hf h1 h2 (by omega) (fQ f n hf).1 (fQ f n hf).2
theorem yL{f:Nat→Int}{n a k:Nat}(h:n≤a):token f n a k=.no 130 n:=by
 unfold token point
 rw[if_neg (by omega)]
 rfl
theorem rD{f:Nat→Int}{n:Nat}(a k:Nat)(v:Tk×Nat)(a':Nat)(h:token f n a k=.ok v a'):a<a':=by
 rcases Nat.lt_or_ge a n with ha|ha
 ·exact(ma f n h (Nat.le_of_lt ha)).1
 ·rw[yL ha]at h;cases h
theorem rE{f:Nat→Int}{n:Nat}(c:Int)(p a k:Nat)(h:token f n a k=.no c p):c≠0:=by
 rcases Nat.lt_or_ge a n with ha|ha
 ·have:=yI f n a k (Nat.le_of_lt ha)
  rw[h]at this
  exact this.1
 ·rw[yL ha]at h;cases h;decide
end Go.Proofs.YtgbkolonhddolaaGreatDoor.prs
namespace Go.Proofs.YtgbkolonhddolaaGreatDoor.prs
open nod tok
open tre(grpN grpL)
theorem cnt0:Cnt s0:=⟨rfl,(by intro x hx;simp[s0]at hx;subst hx;rfl),fun c hm=>by cases hm⟩
theorem inv0:Inv s0:=⟨fun _=>rfl,fun _=>rfl⟩
theorem Ec:∀{ts:List Tk}{s sf:PS},runS s ts=.ok sf→Cnt s→s.bs≠[]→Inv s→(∀t∈ts,mX t)→bot sf.bs=bot s.bs
 |[],s,sf,h,hc,_,_,_=>by cases h;rfl
 |t::ts,s,sf,h,hc,hne,hi,hf=>by
  rw[runS]at h
  split at h
  ·rename_i s1 hs
   have:=yP hs hc hne hi (hf t (by simp))
   rw[Ec h this.1 this.2 (lu hs hi) (fun x hx=>hf x (by simp[hx])),Jj hs hne]
  ·cases h
theorem Jp{f:Nat→Int}{n:Nat}(h:(bD f n).2.1=0):n≤2000∧bD f n=scanR f n n 0 0:=by
 unfold bD at h⊢
 split at h
 ·rename_i hn
  exact⟨hn,by rw[if_pos hn]⟩
 ·cases h
/--What a pattern that can be parsed comes to, in the machine's words. -/
theorem fJ{bN:Nd→Bool}{f:Nat→Int}{n:Nat}(h:(ax bN f n).2.1=0):
  n≤2000∧(scanR f n n 0 0).2.1=0∧lev 0 (scanR f n n 0 0).1=0∧(∀t∈(scanR f n n 0 0).1,mX t)∧∃sf b,runS s0 (scanR f n n 0 0).1=.ok sf∧sf.bs=[b]∧sf.cs=[]∧b.iJ=zN∧(ax bN f n).1=b.node:=by
 obtain⟨hc,sf,b,hr,hb,hcs,ht⟩:=zh h
 obtain⟨hn,e⟩:=Jp hc
 rw[e]at hc hr
 have hf:=vv f n n 0 0
 have hbot:=Ec hr cnt0 (by simp[s0]) inv0 hf
 rw[hb]at hbot
 have hl:=Ea hr inv0
 rw[hcs]at hl
 exact⟨hn,hc,hl.symm,hf,sf,b,hr,hb,hcs,by simpa[bot,s0,b0]using hbot,ht⟩
/--A pattern with no groups, within a bracket: its tree is the Ii kid; or it is too long, or too deep. -/
theorem ry{bN:Nd→Bool}{f g:Nat→Int}{n d:Nat}(hg:∀i,i<n→g (d+i)=f i)(h41:g (d+n)=41)(hin:∀a k v a',token f n a k=.ok v a'→a<a')(hc:∀c p a k,token f n a k=.no c p→c≠0)
  {o:Tk}(hd:0<d)(ho:token g (d+n+1) 0 0=.ok (o,0) d)(hok:o.kind=3)(h:(ax bN f n).2.1=0)(hz:grpN (ax bN f n).1=0):
  ax bN g (d+n+1)=(eB [ou (kJ o (if numbered o then[o.name]else[]).length) [(ax bN f n).1]],0,0)∨(ax bN g (d+n+1)).2.1=4∨(ax bN g (d+n+1)).2.1=153:=by
 obtain⟨hn,h0,hl,hf,sf,b,hr,hb,hcs,ha,ht⟩:=fJ h
 have hnm:=rZ hr hb hf ha (ht▸hz)
 rw[ht]
 by_cases hN:d+n+1≤2000
 ·have es:bD g (d+n+1)=scanR g (d+n+1) (d+n+1) 0 0:=by unfold bD;rw[if_pos hN]
  have ew:=oV f g n d hg h41 hin hc o hd ho h0 hl
  have er:=I4 (wQ d _ _ _ hr) hb hcs hnm (by intro t hx;obtain⟨u,hu,rfl⟩:=List.mem_map.1 hx;exact hf u hu) (o:={o with s:=0,e:=d}) (c:={bare 4 with s:=d+n,e:=d+n+1}) hok rfl
  unfold ax
  rw[es,ew]
  unfold parseP
  rcases er with er|⟨i,er⟩
  ·replace er:runS s0 ({o with s:=0,e:=d}::((scanR f n n 0 0).1.map (sh d)++[{bare 4 with s:=d+n,e:=d+n+1}]))=_:=er
   rw[er]
   by_cases hk:bN (eB [ou (kJ o (if numbered o then[o.name]else[]).length) [b.node]])=true
   ·left
    show(if bN (eB [ou (kJ o (if numbered o then[o.name]else[]).length) [b.node]])=true then _ else _)=_
    rw[if_pos hk]
    rfl
   ·right;left
    show(if bN (eB [ou (kJ o (if numbered o then[o.name]else[]).length) [b.node]])=true then _ else _:Nd×Int×Nat).2.1=4
    rw[if_neg hk]
  ·replace er:runS s0 ({o with s:=0,e:=d}::((scanR f n n 0 0).1.map (sh d)++[{bare 4 with s:=d+n,e:=d+n+1}]))=_:=er
   rw[er]
   exact .inr (.inr rfl)
 ·right;left
  unfold ax bD
  rw[if_neg hN]
  rfl
end Go.Proofs.YtgbkolonhddolaaGreatDoor.prs
namespace Go.Proofs.YtgbkolonhddolaaGreatDoor.prs
open Go.RowKit nod
open tre(grpN grpL bO gN eH)
theorem oC(t:Nd):0≤grpN t:=(gN _ t (Nat.le_refl _)).1
theorem G7(ks:List Nd)(j:Nat):0≤grpL (ks.take j)∧grpL (ks.take j)≤grpL ks:=by
 induction ks generalizing j with
 |nil=>simp[grpL]
 |cons t ks ih=>
  cases j with
  |zero=>rw[List.take_zero,grpL,grpL];have:=oC t;have:=(eH ks).1;omega
  |succ j=>rw[List.take_succ_cons,grpL,grpL];have:=ih j;have:=oC t;omega
theorem CK{ks:List Nd}{t:Nd}(h:t∈ks):grpN t≤grpL ks:=by
 induction ks with
 |nil=>cases h
 |cons x ks ih=>
  rw[grpL]
  rcases List.mem_cons.1 h with rfl|h
  ·have:=(eH ks).1;omega
  ·have:=ih h;have:=oC x;omega
theorem grp_one(z k m a b:Int)(hz:(k=9∧0<a∧z=1)∨(k=9∧¬0<a∧z=0)∨(k≠9∧z=0))(g:Bool)(n:ByteArray)(ks:List Nd)(sa:Option Addr)(sl sc:Nat)(ao:Option Addr)(nk cap:Nat)(w:World)(HL:Hid (ks.length=nk))(hk3:nk≤9223372036854775807)(hs:grpL ks≤1000)(hcap:nk≤cap)(HK:Hid (KV w.heap.size w ao ks))
  (HI:Hid (∀(t:Nd)(v:Value)(W:World),t∈ks→NV W.heap.size W t v→Calls Tryz.prog 6 #[v] W fun e w'=>e=.returned (.int .i64 (grpN t))∧Below W.heap.size W w')):
  Calls Tryz.prog 6 #[.agg #[.int .i64 k,.int .i64 m,.int .i64 a,.int .i64 b,.bool g,.string n,.slice sa sl sc,.slice ao nk cap]] w fun e w'=>e=.returned (.int .i64 (z+grpL ks))∧Below w.heap.size w w':=by
 have HB:Hid (Below w.heap.size w (w.alloc (.cells #[.int .i64 k,.int .i64 m,.int .i64 a,.int .i64 b,.bool g,.string n,.slice sa sl sc,.slice ao nk cap] 26))):=(Below.refl _ w).alloc (Nat.le_refl _) _
 have HZ2:Hid (0≤z∧z≤1):=by unfold Hid;omega
 go_enter Tryz.func6,Tryz.ntmps6
 rcases hz with⟨rfl,c2,hz⟩|⟨rfl,c2,hz⟩|⟨c1,hz⟩
 rotate_right
 have c3:(k==9)=false:=by simp[c1]
 rotate_left
 all_goals
  have HZ:Hid (z=_):=hz
  clear hz
  go_wp2
  go_loopw[3,17](fun c i wr=>∃(j:Nat)(x:Int),j≤nk∧i=.int .i64 j∧c=.int .i64 x∧Hid (x=z+grpL (ks.take j))∧0≤x∧x≤1001∧Hid (Below w.heap.size w wr))(fun _ i _=>nk-(intOf i).toNat)
  case atStart=>exact⟨0,_,Nat.zero_le _,rfl,rfl,by unfold Hid;rw[HZ.out];simp[grpL],by decide,by decide,HB⟩
  case round=>
   obtain⟨j,x,hj,rfl,rfl,HE,x1,x2,HW⟩:=hrel
   clear HB
   by_cases hlt:j<nk
   ·obtain⟨t,ht⟩:=C8 HL.out hlt
    obtain⟨bb,off,rfl,hka⟩:=(HK.out.below HW.out).some (by have:=HL.out;omega)
    obtain⟨k',m',a',b',g',n',s',kk,sa',A7,tQ,cap',rfl,⟨e0,e1,e2,e3,e4,e5,e6,e7⟩,hv'⟩:=hka.kid ht
    have hmem:=List.mem_of_getElem? ht
    generalize s'.length=sl' at*
    generalize kk.length=si at*
    have W1:Below w.heap.size wr (wr.alloc (.cells #[.int .i64 k',.int .i64 m',.int .i64 a',.int .i64 b',.bool g',.string n',.slice sa' sl' A7,.slice tQ si cap'] 26)):=(Below.refl _ wr).alloc HW.out.size _
    have C:=HI.out _ _ (wr.alloc (.cells #[.int .i64 k',.int .i64 m',.int .i64 a',.int .i64 b',.bool g',.string n',.slice sa' sl' A7,.slice tQ si cap'] 26)) hmem ((hv'.keep W1).wide (by have:=HW.out.size;simp;omega))
    have HC:=hd14 (HW.out.trans W1)
    obtain⟨r,hr⟩:∃r,grpN (.mk k' m' a' b' g' n' s' kk)=r:=⟨_,rfl⟩
    have HN:Hid (x+r=z+grpL (ks.take (j+1))):=by unfold Hid;rw[takeX ht,bO,hr,HE.out];omega
    have hb2:0≤x+r∧x+r≤1001:=by
     have:=G7 ks (j+1);have:=HZ2.out;rw[HN.out];omega
    rw[hr]at C
    obtain⟨b1,b2⟩:=hb2
    clear HE HK HW hka hv' hmem W1 HI hr ht HZ2
    go_wp2_with(go_at_call 6;refine C.mono ?_;rintro e w2⟨rfl,d⟩;have HG:Hid (Below w.heap.size w w2):=HC.out.trans (ae d (by have:=HC.out.size;omega));clear d)
    go_roundw
    case rel=>exact⟨j+1,x+r,by omega,by go_num,rfl,HN,b1,b2,HG⟩
    case measure=>simp[intOf];omega
   ·have HX:Hid (x=z+grpL ks):=by
     unfold Hid;rw[HE.out,List.take_of_length_le (by have:=HL.out;omega)]
    clear HK HI
    go_wp2
    go_ret
    exact⟨by rw[←HX.out];rfl,HW.out⟩
theorem qx:∀(N:Nat)(t:Nd)(v:Value)(w:World),t.sz≤N→grpN t≤1000→NV w.heap.size w t v→Calls Tryz.prog 6 #[v] w fun e w'=>e=.returned (.int .i64 (grpN t))∧Below w.heap.size w w':=by
 intro N
 induction N with
 |zero=>intro t v w h;obtain⟨k,m,a,b,g,n,st,ks⟩:=t;rw[Nd.sz]at h;omega
 |succ N ih=>
  intro t v w hN hN2 hv
  obtain⟨k,m,a,b,g,n,st,ks,sa,sc,ao,cap,rfl,rfl,_,_,_,hk1,hk2,_,yu⟩:=hv.open
  rw[Nd.sz]at hN
  rw[grpN]at hN2⊢
  have h0:=(eH ks).1
  have hL:grpL ks≤1000:=by split at hN2<;>omega
  refine grp_one _ k m a b (by by_cases c1:k=9<;>by_cases c2:0<a<;>simp[c1,c2]) g n ks sa st.length sc ao ks.length cap w rfl (by unfold maxLen at hk2;omega) hL (by omega) yu fun t v W hm hv=>?_
  have:=dW hm
  exact ih t v W (by omega) (by have:=CK hm;omega) hv
end Go.Proofs.YtgbkolonhddolaaGreatDoor.prs
namespace Go.Proofs.YtgbkolonhddolaaGreatDoor.prs
open Go.RowKit nod tok
open lin(BA)
open tre(Pw)
def A9:Nat→Int:=fun i=>[97,124,98,42].getD i 0
theorem tO(i:Nat):0≤A9 i∧A9 i≤255:=by
 unfold A9
 match i with
 |0|1|2|3=>decide
 |i+4=>simp
theorem LW:∃m a b g n st x y,ax bU A9 4=(.mk 7 m a b g n st [x,y],0,0):=by
 have t1:(ax bU A9 4).2.1=0:=by kernel_rfl
 have t2:(ax bU A9 4).2.2=0:=by kernel_rfl
 have t3:(ax bU A9 4).1.kind=7:=by kernel_rfl
 have t4:(ax bU A9 4).1.kids.length=2:=by kernel_rfl
 generalize ax bU A9 4=R at*
 obtain⟨⟨k,m,a,b,g,n,st,ks⟩,c,p⟩:=R
 obtain rfl:k=7:=t3
 obtain rfl:c=0:=t1
 obtain rfl:p=0:=t2
 match ks,t4 with
 |[x,y],_=>exact⟨_,_,_,_,_,_,_,_,rfl⟩
theorem wD(w:World)(E:PEnv w)(hw:Pw w):Calls Tryz.prog 7 #[] w fun e w'=>e=.returned (.bool true)∧Below w.heap.size w w':=by
 have CV:(convert 22 22 (.slice (some ⟨w.heap.size,0,none⟩) 4 4)).run Tryz.prog (w.alloc (.cells #[.int .u8 97,.int .u8 124,.int .u8 98,.int .u8 42] 5))=.ok (.slice (some ⟨w.heap.size,0,none⟩) 4 4) (w.alloc (.cells #[.int .u8 97,.int .u8 124,.int .u8 98,.int .u8 42] 5 (4,5))):=Lib.run_convert_bytes_const w 22 5 #[.int .u8 97,.int .u8 124,.int .u8 98,.int .u8 42] 4 4 Tryz.underlying22 Tryz.underlying5
 have I1:utf.oM (w.alloc (.cells #[.int .u8 97,.int .u8 124,.int .u8 98,.int .u8 42] 5 (4,5))) (some ⟨w.heap.size,0,none⟩) 4 A9:=.inr ⟨_,0,rfl,fun i hi=>by
  rw[Nat.zero_add,World.cell?_alloc_mark]
  match i,hi with
  |0,_=>simp[A9]
  |1,_=>simp[A9]
  |2,_=>simp[A9]
  |3,_=>simp[A9]⟩
 obtain⟨W,hW⟩:∃W,w.alloc (.cells #[.int .u8 97,.int .u8 124,.int .u8 98,.int .u8 42] 5 (4,5))=W:=⟨_,rfl⟩
 have B1:Below w.heap.size w W:=by rw[←hW];exact(Below.refl _ w).alloc (Nat.le_refl _) _
 rw[hW]at CV I1
 obtain⟨m,a,b,g,n,st,x,y,hp⟩:=LW
 have CP:=parse_any (n:=4) (cap:=4) I1 (E.below B1) (hw.on B1) tO (by decide) (by decide) (by decide) (fQ A9 4 tO).1 (fQ A9 4 tO).2
 rw[hp]at CP
 have HB1:Hid (Below w.heap.size w W):=B1
 clear B1 I1 hp E hw hW
 go_enter Tryz.func7,Tryz.ntmps7
 go_wp2_with fail
 refine CP.mono ?_
 rintro e w2⟨yv,rfl,hfz,hb⟩
 clear CP
 have H2:Hid (Below w.heap.size w w2):=HB1.out.trans (ae hb HB1.out.size)
 obtain⟨k,m,a,b,g,n,st,ks,sa,sc,ao,cap,ht,hv,_⟩:=hfz.nv.open
 simp only at ht
 injection ht with e1 e2 e3 e4 e5 e6 e7 e8
 subst e1 e8
 rw[hv]
 simp only[List.length_cons,List.length_nil]
 generalize st.length=sl at*
 clear hb hfz hv
 go_wp2
 go_ret
 refine⟨rfl,(H2.out.alloc H2.out.size _).alloc ?_ _⟩
 have:=H2.out.size
 simp
 omega
end Go.Proofs.YtgbkolonhddolaaGreatDoor.prs
namespace Go.Proofs.YtgbkolonhddolaaGreatDoor.prs
open Go.RowKit nod tok
open tre(Pw grpN og)
/--A tree that is read may be. -/
theorem Gc{bN:Nd→Bool}{f:Nat→Int}{n:Nat}(h:(ax bN f n).2.1=0):bN (ax bN f n).1=true:=by
 unfold ax parseP at h⊢
 split
 ·rename_i e he;rw[he]at h;exact absurd h (wR he)
 rename_i s he
 rw[he]at h
 dsimp only at h⊢
 by_cases h1:(bD f n).2.1≠0
 ·rw[if_pos h1]at h;exact absurd h h1
 rw[if_neg h1]at h⊢
 by_cases h2:s.depth≠0
 ·rw[if_pos h2]at h;simp at h
 rw[if_neg h2]at h⊢
 split
 ·rename_i b hb
  rw[hb]at h
  dsimp only at h
  by_cases h3:bN b.node=true
  ·rw[if_pos h3];exact h3
  ·rw[if_neg h3]at h;simp at h
 ·rename_i hb
  split at h
  ·rename_i b hb';exact absurd hb' (hb b)
  ·simp at h
theorem vE{f:Nat→Int}{n:Nat}(h:(ax bU f n).2.1=0):grpN (ax bU f n).1≤20:=by
 have:=Gc h
 unfold bU at this
 obtain⟨l,hl⟩:=Option.isSome_iff_exists.1 this
 exact(tre.Ca hl).2.1
theorem cl8{W:World}{k:Nat}{c0 c1 c2 c3 c4 c5 c6 c7:Value}{T:TypeId}(h:Bk W k #[c0,c1,c2,c3,c4,c5,c6,c7] T):W.cell? ⟨k,0,none⟩=some c0∧W.cell? ⟨k,1,none⟩=some c1∧W.cell? ⟨k,2,none⟩=some c2∧W.cell? ⟨k,3,none⟩=some c3∧W.cell? ⟨k,4,none⟩=some c4∧W.cell? ⟨k,5,none⟩=some c5∧W.cell? ⟨k,6,none⟩=some c6∧W.cell? ⟨k,7,none⟩=some c7:=
 ⟨h.cell 0 rfl,h.cell 1 rfl,h.cell 2 rfl,h.cell 3 rfl,h.cell 4 rfl,h.cell 5 rfl,h.cell 6 rfl,h.cell 7 rfl⟩
end Go.Proofs.YtgbkolonhddolaaGreatDoor.prs
