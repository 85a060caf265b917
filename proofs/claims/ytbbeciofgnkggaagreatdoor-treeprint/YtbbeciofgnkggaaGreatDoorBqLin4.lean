import Derived.Test.YtbbeciofgnkggaaGreatDoorBqLin3
import Derived.Deep.RegionHeld3
import Derived.Test.YtbbeciofgnkggaaGreatDoorBqLin1
import Derived.Test.YtbbeciofgnkggaaGreatDoorBqLin2
import Derived.Deep.QuietTactic
import Derived.BigQuiet
import Derived.Laws.IdiomStrings
import Derived.Laws.BitsLemmas
import Derived.Laws.ResultCell
import Derived.WalkSmall
import Derived.Handy
set_option linter.unusedSimpArgs false
set_option linter.unusedVariables false
set_option maxRecDepth 100000
set_option maxHeartbeats 4000000
namespace Go.Proofs.YtbbeciofgnkggaaGreatDoor.lin
open Go.RowKit
theorem rrows_any(s:ByteArray)(w:World)(hs:s.size≤1073741824):
  Calls Tryz.prog 100 #[.string s] w fun e w'=>∃v,e=.returned v∧RowsAt w' w.heap.size v (rowsOf (cutV s 10))∧Below w.heap.size w w':=by
 obtain⟨i0,hi,hz0,hy1,hz2⟩:=info_parts infoStrs
 have RC:=rcut_any s 10 w (by omega)
 go_enter Tryz.func100,Tryz.ntmps100
 go_wp2_with fail
 refine RC.mono ?_
 rintro e w1⟨v,rfl,hown,b1⟩
 obtain⟨a,c,rfl,hrow⟩:=strRow hown
 have hpos:0<(cutV s ((10:Nat):Int)).length:=(cutV_head s 10).2
 obtain⟨g,rfl,_,hg,_,_,_,hcell⟩:=hrow hpos
 have HC:Hid (∀(i:Nat)(x:ByteArray),(cutV s 10)[i]?=some x→w1.cell? ⟨g,i,none⟩=some (.string x)):=hcell
 have HN:Hid (∀i,i<(cutV s 10).length→∃x,(cutV s 10)[i]?=some x∧(cutV s 10).take (i+1)=(cutV s 10).take i++[x]):=fun i h=>⟨_,List.getElem?_eq_getElem h,by rw[List.take_add_one,List.getElem?_eq_getElem h];rfl⟩
 have HSZ:Hid (∀x∈cutV s 10,x.size≤s.size):=fun x hx=>cuts_size _ _ _ _ _ x hx
 have hcl:=cutV_len2 s 10
 have e10:cutV s ((10:Nat):Int)=cutV s 10:=rfl
 rw[e10]
 clear e10 hrow hcell hpos hown RC
 generalize hcs:cutV s 10=cs at*
 have HCS:Hid (cutV s 10=cs):=hcs
 clear hcs
 go_wp2
 go_loopw[3,10](fun v i wr=>∃k:Nat,k≤cs.length∧i=.int .i64 k∧Hid (RowsAt wr w1.heap.size v (rowsOf (cs.take k)))∧Below w1.heap.size w1 wr)(fun _ i _=>cs.length-(RowKit.intOf i).toNat)
 case atStart=>exact⟨0,Nat.zero_le _,rfl,RowsAt.nil _ _,Below.refl _ _⟩
 case round=>
  obtain⟨k,hk,rfl,HR,hbel⟩:=hrel
  by_cases hlt:k<cs.length
  ·obtain⟨x,hx,htk⟩:=HN.out k hlt
   have hlt':(k:Int)<(cs.length:Int):=by omega
   have cx:wr.cell? ⟨g,k,none⟩=some (.string x):=(hbel.cell (p:=⟨g,k,none⟩) hg).trans (HC.out k x hx)
   have hxs:=HSZ.out x (List.mem_of_getElem? hx)
   have RF:=rfields_any x wr (by omega)
   have hlk:(cs.take k).length=k:=by rw[List.length_take];omega
   have hrl:=rowsOf_len (cs.take k)
   rw[hlk]at hrl
   have HLR:Hid (rowsOf (cs.take (k+1))=rowsOf (cs.take k)++rowOf x):=by rw[Hid,htk,rowsOf_snoc]
   have hbs:=hbel.size
   clear htk hx hlk
   go_wp2_with fail
   refine RF.mono ?_
   rintro e w2⟨fv,rfl,hown,b2⟩
   clear RF cx
   have b12:=hbel.trans (b2.mono hbs)
   have hs2:=b2.size
   have HR2:Hid (RowsAt w2 w1.heap.size u3 (rowsOf (cs.take k))):=HR.out.kept b2
   cases hfs:fieldsV x with
   |nil=>
    rw[hfs]at hown
    obtain⟨sa,sc,rfl⟩:=own_slice hown
    have R2:Hid (RowsAt w2 w1.heap.size u3 (rowsOf (cs.take (k+1)))):=by
     rw[Hid,HLR.out,show rowOf x=[]from by unfold rowOf;rw[hfs];rfl,List.append_nil];exact HR2.out
    clear hown HR HR2
    go_wp2
    go_roundw
    case rel=>exact⟨k+1,by omega,by go_num,R2,b12⟩
    case measure=>simp[RowKit.intOf];omega
   |cons f fs=>
    rw[hfs]at hown
    have hF:FAt w2 w1.heap.size fv (f::fs):=by
     obtain⟨fa,fc,rfl,hfrow⟩:=strRow hown
     obtain⟨g2,rfl,hg1,hg2,hfc1,hfc2,⟨cur,hcur,hcc⟩,hfcell⟩:=hfrow (by simp)
     exact⟨g2,0,fc,cur,rfl,by omega,hcur,fun j hj=>by
      rw[Nat.zero_add,hcc j _ (List.getElem?_eq_getElem hj),List.getD_eq_getElem?_getD,List.getElem?_eq_getElem hj];rfl⟩
    obtain⟨L,hL,ho,hf⟩:=HR2.out
    have hLl:L.length≤k:=by
     have:=congrArg List.length hL
     rw[List.length_map]at this
     omega
    have HW:Hid (∀j,u3.ownBlock=some j→w1.heap.size≤j):=fun j e=>(ho.lt _ e).1
    have HF:Hid (FAt w2 w1.heap.size fv (f::fs)):=hF
    have HFF:Hid (∀q∈L,FAt w2 w1.heap.size q.1 q.2):=hf
    have HL:Hid (L.map (·.2)=rowsOf (cs.take k)):=hL
    have HO:Hid (w2.ownsRow w1.heap.size 40 1 u3 L.length (L.map (·.1))):=ho
    have HRX:Hid (rowOf x=[f::fs]):=by unfold Hid rowOf;rw[hfs];rfl
    obtain⟨ua,uc,rfl⟩:=own_slice ho
    obtain⟨fg,fo,fc',fcur,rfl,_⟩:=hF
    have t0:(0:Int)<(fs.length:Int)+1:=by omega
    clear hown HR HR2 hL ho hf hrl hfs
    go_wp2_with(at_builtin;refine wpList_append_own _ rfl _ _ 118 rfl w1.heap.size 40 i0 (.slice none 0 0) 1 24 Tryz.underlying118 hi hz0 hy1 hz2 rfl (by decide) _ _ _ rfl (HO.out.alloc _) ⟨w2.heap.size,0,none⟩ 1 1 [.slice (some ⟨fg,fo,none⟩) (fs.length+1) fc'] rfl rfl (cell_one_new _ _ _) (by simp[Value.oneCell']) (by unfold maxLen;omega) (by omega) (by simp;omega) ?_)
    intro v' w4 hown4 hgrow _
    have al:∀x,Below w2.heap.size w2 (w2.alloc x):=fun x=>(Below.refl _ w2).alloc (Nat.le_refl _) _
    have R2:Hid (RowsAt w4 w1.heap.size v' (rowsOf (cs.take (k+1)))):=by
     rw[Hid,HLR.out,HRX.out,←HL.out]
     exact RowsAt.push (fun q hq=>(HFF.out q hq).kept (al _)) (HO.out.alloc _) (HF.out.kept (al _)) hgrow hown4
    have R3:Below w1.heap.size w1 w4:=(b12.alloc b12.size _).grown hgrow (by simp;omega) HW.out
    clear hown4 hgrow HO HFF HF HLR HRX HL al
    go_wp2
    go_roundw
    case rel=>exact⟨k+1,by omega,by go_num,R2,R3⟩
    case measure=>simp[RowKit.intOf];omega
  ·obtain rfl:k=cs.length:=by omega
   rw[List.take_length]at HR
   have b3:=b1.trans (hbel.mono b1.size)
   have HRL:Hid (RowsAt wr w.heap.size u3 (rowsOf cs)):=HR.out.lower b1.size
   go_wp2
   go_ret
   exact⟨u3,rfl,by rw[HCS.out];exact HRL.out,b3⟩
end Go.Proofs.YtbbeciofgnkggaaGreatDoor.lin
section
namespace Go.Proofs.YtbbeciofgnkggaaGreatDoor.lin
section
variable{P:Program}{ops:Array Oper}{Q:Exit→Act→World→Prop}{md:Region.Mode}{S:World→Prop}{k:Nat}
/--Whatever order is picked: S holds behind each operation that comes up ahead of number k. -/
def wpAnyK(P:Program)(md:Region.Mode)(ops:Array Oper)(Q:Exit→Act→World→Prop)(S:World→Prop)(k:Nat):Nat→Array Bool→Act→World→Prop
 |0,listed,a,w=>Region.ready md ops listed=[]∧Q .normal a w
 |fuel+1,listed,a,w=>(Region.ready md ops listed=[]→Q .normal a w)∧
  ∀i∈Region.ready md ops listed,wpOp P ops Q i (fun a' w'=>if i=k then wpAny P md ops Q fuel (listed.setIfInBounds i true) a' w' else S w'∧wpAnyK P md ops Q S k fuel (listed.setIfInBounds i true) a' w') a w
theorem wpAny_of_k:∀(fuel:Nat)(listed:Array Bool)(a:Act)(w:World),wpAnyK P md ops Q S k fuel listed a w→wpAny P md ops Q fuel listed a w
 |0,_,_,_,h=>h
 |fuel+1,_,_,_,h=>⟨h.1,fun i hi=>wpOp_mono (fun a' w' h'=>by
  by_cases e:i=k
  ·rw[if_pos e]at h';exact h'
  ·rw[if_neg e]at h';exact wpAny_of_k fuel _ a' w' h'.2) (h.2 i hi)⟩
theorem wpAnyK_first{i:Nat}{oi ok:Oper}{v:Value}(hi:ops[i]?=some oi)(hsel:∀(j:Nat)(o:Oper)cs b,ops[j]?=some o→o.op≠.select cs b)
  (hQ:∀c a w,Q (.panic c) (a.put oi.dst v) w→Q (.panic c) a w)(hik:i≠k)(hok:ops[k]?=some ok)(hw:∃e∈ok.after,Region.binds md e=true∧e.on=i):
  ∀(fuel:Nat)(listed:Array Bool)(a:Act)(w:World),
   (∀j oj,ops[j]?=some oj→j≠i→listed.getD j true=false→(∀e∈oj.after,Region.binds md e=true→e.on≠i)→oi.apart ops oj=true)→
   i∈Region.ready md ops listed→YieldsIf P ops S oi v a→S w→
   wpAnyK P md ops Q S k fuel (listed.setIfInBounds i true) (a.put oi.dst v) w→wpAnyK P md ops Q S k (fuel+1) listed a w:=by
 intro fuel
 induction fuel with
 |zero=>
  intro listed a w _ hr hy hS H
  refine⟨fun h=>(by rw[h]at hr;cases hr),fun j hj=>?_⟩
  by_cases hji:j=i
  ·subst hji;exact hy.wpOp hi hS (by rw[if_neg hik];exact⟨hS,H⟩)
  ·have:=ready_mono hj hji
   rw[H.1]at this
   cases this
 |succ fuel ih=>
  intro listed a w hfree hr hy hS H
  refine⟨fun h=>(by rw[h]at hr;cases hr),fun j hj=>?_⟩
  by_cases hji:j=i
  ·subst hji;exact hy.wpOp hi hS (by rw[if_neg hik];exact⟨hS,H⟩)
  ·have h1:=H.2 j (ready_mono hj hji)
   obtain⟨hjun,oj,hoj,hall⟩:=mem_ready.1 hj
   have hnot:∀e∈oj.after,Region.binds md e=true→e.on≠i:=fun e he hb heq=>by
    have h1:=hall e he hb
    have h0:=(mem_ready.1 hr).1
    rw[heq]at h1
    rcases Nat.lt_or_ge i listed.size with h'|h'
    ·simp[h']at h0 h1;rw[h0]at h1;cases h1
    ·simp[Array.getElem?_eq_none h']at h1
   by_cases hjk:j=k
   ·exfalso
    subst hjk
    rw[hoj]at hok
    cases hok
    obtain⟨e,he,hb,heq⟩:=hw
    exact hnot e he hb heq
   simp only[if_neg hjk]at h1⊢
   have h2:=wpOp_putIf hoj (hfree j oj hoj hji hjun hnot) (fun cs b=>hsel i oi cs b hi) (fun cs b=>hsel j oj cs b hoj) hQ hy h1
   have hfree':∀k ok,ops[k]?=some ok→k≠i→(listed.setIfInBounds j true).getD k true=false→
     (∀e∈ok.after,Region.binds md e=true→e.on≠i)→oi.apart ops ok=true:=fun k ok hk hki hun hno=>by
    refine hfree k ok hk hki ?_ hno
    by_cases hjk:j=k
    ·subst hjk;exact hjun
    ·rw[getD_set_ne true hjk]at hun;exact hun
   refine wpOp_mono (fun a' w' h3=>⟨h3.2.1,ih (listed.setIfInBounds j true) a' w' hfree' (ready_mono hr (Ne.symm hji)) h3.1 h3.2.1 ?_⟩) h2
   rw[Array.setIfInBounds_comm _ _ hji]
   exact h3.2.2
/--Number k waits for number i. -/
def waits(md:Region.Mode)(ops:Array Oper)(k i:Nat):Bool:=match ops[k]? with
 |some o=>o.after.any (fun e=>Region.binds md e&&e.on==i)
 |none=>false
theorem wpAnyK_take{i:Nat}{oi:Oper}{v:Value}{fuel:Nat}{listed:Array Bool}{a:Act}{w:World}(hi:ops[i]?=some oi)
  (hs:Region.noSelect ops=true)(hf:Region.free md ops listed i=true)(hr:(Region.ready md ops listed).contains i=true)(hik:i≠k)(hw:waits md ops k i=true)
  (hQ:∀c a w,Q (.panic c) (a.put oi.dst v) w→Q (.panic c) a w)(hy:YieldsIf P ops S oi v a)(hS:S w)
  (h:wpAnyK P md ops Q S k fuel (listed.setIfInBounds i true) (a.put oi.dst v) w):wpAnyK P md ops Q S k (fuel+1) listed a w:=by
 unfold waits at hw
 cases hk:ops[k]? with
 |none=>rw[hk]at hw;cases hw
 |some ok=>
  rw[hk]at hw
  have hw:∃(j:Nat),∃h,Region.binds md ok.after[j]=true∧ok.after[j].on=i:=by simpa using hw
  obtain⟨j,hj,h1,h2⟩:=hw
  exact wpAnyK_first hi (Region.noSelect_spec hs) hQ hik hk ⟨_,Array.getElem_mem hj,h1,h2⟩ fuel listed a w (Region.free_spec hi hf) (by simpa using hr) hy hS h
theorem wpAnyK_one{j:Nat}{o:Oper}{fuel:Nat}{listed:Array Bool}{a:Act}{w:World}(hr:Region.ready md ops listed=[j])(hj:j≠k)(ho:ops[j]?=some o)
  (h:∀K':Act→World→Prop,Shut (∀a w,S w→(S w→wpAnyK P md ops Q S k fuel (listed.setIfInBounds j true) a w)→K' a w)→if Region.wanted o (yielded ops a.tmps)=true then Oper.wp P o a w K' Q else K' (a.put o.dst undef) w):
  wpAnyK P md ops Q S k (fuel+1) listed a w:=
 ⟨fun h0=>(by rw[hr]at h0;cases h0),fun i hi=>by
  rw[hr]at hi
  obtain rfl:i=j:=by simpa using hi
  simp only[if_neg hj]
  exact wpOp_step ho fun K' hK=>h K' (fun a w hS hW=>hK a w ⟨hS,hW hS⟩)⟩
theorem wpAnyK_last{o:Oper}{fuel:Nat}{listed:Array Bool}{a:Act}{w:World}(hr:Region.ready md ops listed=[k])(ho:ops[k]?=some o)
  (h:∀K':Act→World→Prop,Shut (∀a w,wpAny P md ops Q fuel (listed.setIfInBounds k true) a w→K' a w)→if Region.wanted o (yielded ops a.tmps)=true then Oper.wp P o a w K' Q else K' (a.put o.dst undef) w):
  wpAnyK P md ops Q S k (fuel+1) listed a w:=
 ⟨fun h0=>(by rw[hr]at h0;cases h0),fun i hi=>by
  rw[hr]at hi
  obtain rfl:i=k:=by simpa using hi
  simp only[if_true]
  exact wpOp_step ho fun K' hK=>h K' (fun a w hW=>hK a w hW)⟩
theorem wp_region_k(k:Nat)(S:World→Prop){id:Nat}{a:Act}{w:World}(hm:P.follows .mixedOrders=true)(hS:S w.drew)
  (h:S w.drew→wpAnyK P .any ops Q S k ops.size (Array.replicate ops.size false) a w.drew):(Code.region id ops true).wp P Q a w:=
 wp_region_any hm (wpAny_of_k _ _ _ _ (h hS))
section
variable{n:Nat}{a:Act}{w:World}
def okJ(md:Region.Mode)(ops:Array Oper)(l:Array Bool)(k i:Nat):Bool:=okG md ops l i&&i !=k&&waits md ops k i
theorem tkK(i:Nat){o:Oper}{v:Value}{f:Nat}{l:Array Bool}(hi:ops[i]?=some o)(hc:okJ md ops l k i=true)(hQ:∀c a w,Q (.panic c) (a.put o.dst v) w→Q (.panic c) a w)(hr:Region.wanted o (yielded ops a.tmps)=true)
  (hv:∀w,S w→(execOp a.eval o).run P w=.ok (.value v) w)(hS:S w)(h:wpAnyK P md ops Q S k f (l.setIfInBounds i true) (a.put o.dst v) w):wpAnyK P md ops Q S k (f+1) l a w:=by
 simp only[okJ,okG,Bool.and_eq_true,bne_iff_ne]at hc
 exact wpAnyK_take hi hc.1.1.1.1 hc.1.1.1.2 hc.1.1.2 hc.1.2 hc.2 hQ (.inl ⟨hr,hv⟩) hS h
end
end
end Go.Proofs.YtbbeciofgnkggaaGreatDoor.lin
end
section
namespace Go.Proofs.YtbbeciofgnkggaaGreatDoor.lin
section
variable{P:Program}{ops:Array Oper}{Q:Exit→Act→World→Prop}{md:Region.Mode}{S:World→Prop}{a:Act}{w:World}
theorem tH(i:Nat){o:Oper}{v:Value}{f:Nat}{l:Array Bool}(h:wpAnyH P md ops Q S f (l.setIfInBounds i true) (a.put o.dst v) w)(hi:ops[i]?=some o:=by rfl)(hc:okG md ops l i=true:=by kernel_rfl)(hQ:∀c a w,Q (.panic c) (a.put o.dst v) w→Q (.panic c) a w:=by exact fun _ _ _ h=>h)(hr:Region.wanted o (yielded ops a.tmps)=true:=by rfl)
 (hv:∀w,S w→(execOp a.eval o).run P w=.ok (.value v) w:=by(intro w' hSw;(try dsimp only at hSw);go_simp;try with_reducible rfl))(hS:S w:=by assumption):wpAnyH P md ops Q S (f+1) l a w:=tkH i hi hc hQ hr hv hS h
theorem tK(i:Nat){k:Nat}{o:Oper}{v:Value}{f:Nat}{l:Array Bool}(h:wpAnyK P md ops Q S k f (l.setIfInBounds i true) (a.put o.dst v) w)(hi:ops[i]?=some o:=by rfl)(hc:okJ md ops l k i=true:=by kernel_rfl)(hQ:∀c a w,Q (.panic c) (a.put o.dst v) w→Q (.panic c) a w:=by exact fun _ _ _ h=>h)(hr:Region.wanted o (yielded ops a.tmps)=true:=by rfl)
 (hv:∀w,S w→(execOp a.eval o).run P w=.ok (.value v) w:=by(intro w' hSw;(try dsimp only at hSw);go_simp;try with_reducible rfl))(hS:S w:=by assumption):wpAnyK P md ops Q S k (f+1) l a w:=tkK i hi hc hQ hr hv hS h
end
end Go.Proofs.YtbbeciofgnkggaaGreatDoor.lin
end
namespace Go.Proofs.YtbbeciofgnkggaaGreatDoor.lin
open Go.RowKit
def dU(n:Nat):UInt8:=if n<10 then UInt8.ofNat (48+n)else UInt8.ofNat (55+n)
/--The digits of a number, great; none of 0. -/
def hexU(n:Nat):List UInt8:=if h:n=0 then[]else hexU (n/16)++[dU (n%16)]
termination_by n
decreasing_by omega
/--Four digits at least. -/
def pointL(n:Nat):List UInt8:=List.replicate (4-(hexU n).length) 48++hexU n
/--What is still to come of a number, ahead of k digits. -/
def ahead(r k:Nat):List UInt8:=List.replicate (4-k-(hexU r).length) 48++hexU r
end Go.Proofs.YtbbeciofgnkggaaGreatDoor.lin
namespace Go.Proofs.YtbbeciofgnkggaaGreatDoor.lin
open Go.RowKit
def dL(n:Nat):UInt8:=if n<10 then UInt8.ofNat (48+n)else UInt8.ofNat (87+n)
def lowL(n:Nat):List UInt8:=if h:n<16 then[dL n]else lowL (n/16)++[dL (n%16)]
termination_by n
decreasing_by omega
theorem lowL_small(n:Nat)(h:n<16):lowL n=[dL n]:=by rw[lowL,dif_pos h]
theorem lowL_step(n:Nat)(h:16≤n):lowL n=lowL (n/16)++[dL (n%16)]:=by rw[lowL,dif_neg (by omega)]
theorem lowL_len:∀k n,n<16^(k+1)→(lowL n).length≤k+1:=by
 intro k
 induction k with
 |zero=>intro n h;rw[lowL_small n (by simpa using h)];simp
 |succ k ih=>
  intro n h
  rcases Nat.lt_or_ge n 16 with hn|hn
  ·rw[lowL_small n hn];simp
  ·rw[lowL_step n hn,List.length_append,List.length_singleton]
   have:=ih (n/16) (by rw[Nat.pow_succ]at h;omega)
   omega
theorem lowL_pos(n:Nat):1≤(lowL n).length:=by
 rcases Nat.lt_or_ge n 16 with hn|hn
 ·rw[lowL_small n hn];simp
 ·rw[lowL_step n hn,List.length_append,List.length_singleton];omega
theorem wraps_u64'(n:Int)(h₀:0≤n)(h₁:n<2^63):IntKind.u64.wrap n=n:=by
 simp[IntKind.wrap,IntKind.bits,IntKind.signed]
 omega
theorem u64_and15(x:Nat)(h:x≤1152921504606846975):bits .and .u64 (x:Int) 15=((x%16:Nat):Int):=by
 have:=bits_mask .u64 63 (by decide) wraps_u64' 4 (by decide) (x:Int) (by omega) (by omega)
 exact this
def digs:ByteArray:=⟨#[48,49,50,51,52,53,54,55,56,57,97,98,99,100,101,102,103,104,105,106,107,108,109,110,111,112,113,114,115,116,117,118,119,120,121,122]⟩
theorem digs_fin:∀d:Fin 16,(digs[d.val]'(Nat.lt_of_lt_of_le d.isLt (by decide))).toNat=(dL d.val).toNat:=by decide+kernel
theorem digs_get(d:Nat)(h:d<16)(hk:d<digs.size):(digs[d]'hk).toNat=(dL d).toNat:=digs_fin ⟨d,h⟩
/--The array's cells from m on are the digits D. -/
def Tail(w:World)(A m:Nat)(D:List UInt8):Prop:=
 ∃cur,w.heap[A]?=some (.cells cur 128 (0,0))∧cur.size=65∧m+D.length=65∧∀(j:Nat)(x:UInt8),D[j]?=some x→cur[m+j]?=some (.int .u8 x.toNat)
theorem Tail.put{w:World}{A m:Nat}{D:List UInt8}(h:Tail w A (m+1) D)(x:UInt8):Tail (w.setCell ⟨A,m,none⟩ (.int .u8 x.toNat)) A m (x::D):=by
 obtain⟨cur,h1,h2,h3,h4⟩:=h
 refine⟨_,heap_setCell_same w A m cur _ _ h1,by rw[Array.size_setIfInBounds];exact h2,by simp;omega,?_⟩
 intro j y hy
 cases j with
 |zero=>
  simp at hy
  subst hy
  rw[Nat.add_zero,Array.getElem?_setIfInBounds_self_of_lt (by omega)]
 |succ j=>
  rw[Array.getElem?_setIfInBounds_ne (by omega),show m+(j+1)=m+1+j from by omega]
  exact h4 j y (by simpa using hy)
theorem zeros_any(w:World)(h:w.cell? ⟨7,15,none⟩=some (.int .u8 4)):
  Calls Tryz.prog 111 #[.int .u64 16] w fun e w'=>e=.returned (.int .i64 4)∧w'=w:=by
 have e1:bits BinOp.and IntKind.u64 16 (IntKind.u64.wrap (-16))=16:=by kernel_rfl
 have e2:IntKind.u64.wrap 4573923408821661840=4573923408821661840:=by kernel_rfl
 go_enter Tryz.func111,Tryz.ntmps111
 go_wp2
 go_ret
 exact⟨rfl,rfl⟩
theorem power_any(w:World):Calls Tryz.prog 110 #[.int .i64 16] w fun e w'=>e=.returned (.bool true)∧w'=w:=by
 have e1:bits BinOp.and IntKind.i64 16 15=0:=by kernel_rfl
 go_enter Tryz.func110,Tryz.ntmps110
 go_wp2
 go_ret
 exact⟨rfl,rfl⟩
theorem bits_any(n:Nat)(w:World)(hn:n≤1152921504606846975)(h:w.cell? ⟨7,15,none⟩=some (.int .u8 4))(hlt:7<w.heap.size):
  Calls Tryz.prog 94 #[.slice none 0 0,.int .u64 n,.int .i64 16,.bool false,.bool false] w fun e w'=>e=.returned (.tuple #[.slice none 0 0,.string (BA (lowL n))])∧Below w.heap.size w w':=by
 go_enter Tryz.func94,Tryz.ntmps94
 have TZ:∀o,Calls Tryz.prog 111 #[.int .u64 16] (w.alloc o) fun e w'=>e=.returned (.int .i64 4)∧w'=w.alloc o:=fun o=>zeros_any _ ((World.cell?_of_block (w:=w) (a:=⟨7,15,none⟩) (Below.heap_alloc _ _ _ hlt)).trans h)
 go_wp2_with fail
 refine(power_any _).mono ?_
 rintro e w'⟨rfl,rfl⟩
 go_wp2_with fail
 refine(TZ _).mono ?_
 rintro e w'⟨rfl,rfl⟩
 clear TZ
 have hT0:Tail (w.alloc (.cells Tryz.zeroCells128 128)) w.heap.size 65 []:=⟨_,World.alloc_heap_new w _,by kernel_rfl,rfl,fun j x hx=>by simp at hx⟩
 have hB0:Below w.heap.size w (w.alloc (.cells Tryz.zeroCells128 128)):=(Below.refl _ w).alloc (Nat.le_refl _) _
 have HLN:Hid ((lowL n).length≤16):=lowL_len 15 n (by omega)
 have HT0:Hid (Tail (w.alloc (.cells Tryz.zeroCells128 128)) w.heap.size 65 []):=hT0
 clear hT0 h hlt
 generalize w.alloc (.cells Tryz.zeroCells128 128)=W0 at*
 go_wp2
 go_loopg[1,13]n(fun k v t wr=>∃(u m:Nat)(D:List UInt8),v=.int .u64 u∧t=.int .i64 m∧k=u∧u≤n∧m≤65∧D.length≤15∧Hid (lowL u++D=lowL n)∧Hid (Tail wr w.heap.size m D)∧Below w.heap.size w wr)
 case atStart=>exact⟨n,65,[],rfl,rfl,rfl,Nat.le_refl _,Nat.le_refl _,by simp,by rw[Hid,List.append_nil],HT0,hB0⟩
 case round=>
  clear HT0 hB0
  obtain⟨u,m,D,rfl,rfl,hgk,hun,hm65,hD,HH,HT,hbel⟩:=hrel
  have HGK:Hid (gk=u):=hgk
  clear hgk
  obtain⟨cur,hc1,hc2,hc3,_⟩:=HT.out
  obtain⟨m',rfl⟩:∃m',m=m'+1:=⟨m-1,by omega⟩
  obtain⟨cv,cm⟩:∃cv,wr.cell? ⟨w.heap.size,m',none⟩=some cv:=⟨cur[m']'(by omega),by rw[cell_of_row wr w.heap.size m' cur _ _ hc1];exact Array.getElem?_eq_getElem (by omega)⟩
  have fm:=frozen_of_row wr w.heap.size m' cur _ hc1
  have hb15:=u64_and15 u (by omega)
  have hsz:digs.size=36:=rfl
  by_cases hu:16≤u
  ·have hd16:u%16<16:=Nat.mod_lt _ (by decide)
   have t1:(16:Int)≤(u:Int):=by omega
   have hdg:=digs_get (u%16) hd16 (by omega)
   unfold digs at hdg
   have R1:Hid (Tail (wr.setCell ⟨w.heap.size,m',none⟩ (.int .u8 ((dL (u%16)).toNat:Int))) w.heap.size m' (dL (u%16)::D)):=HT.out.put _
   have R2:Hid (lowL (u/16)++(dL (u%16)::D)=lowL n):=by
    rw[Hid,←HH.out,lowL_step u hu,List.append_assoc];rfl
   have R3:Hid ((dL (u%16)::D).length≤15):=by
    have h1:=congrArg List.length R2.out
    rw[List.length_append]at h1
    have h2:=lowL_pos (u/16)
    have h3:=HLN.out
    rw[Hid];omega
   have R4:=hbel.setCell (p:=⟨w.heap.size,m',none⟩) (Nat.le_refl _) (.int .u8 ((dL (u%16)).toNat:Int))
   clear hc1 hc3 HT HH hbel
   go_wp2
   go_roundg(u/16)
   case measure=>have:=HGK.out;omega
   case rel=>exact⟨u/16,m',dL (u%16)::D,rfl,rfl,rfl,by omega,by omega,R3.out,R2,R1,R4⟩
  ·have t1:¬(16:Int)≤(u:Int):=by omega
   have hdg:=digs_get u (by omega) (by omega)
   unfold digs at hdg
   have R1:=HT.out.put (dL u)
   have HE:Hid (lowL n=dL u::D):=by
    rw[Hid,←HH.out,lowL_small u (by omega)];rfl
   have R4:=hbel.setCell (p:=⟨w.heap.size,m',none⟩) (Nat.le_refl _) (.int .u8 ((dL u).toNat:Int))
   have hcv:(convert 47 9 (.slice (some ⟨w.heap.size,m',none⟩) (65-m') (65-m'))).run Tryz.prog (wr.setCell ⟨w.heap.size,m',none⟩ (.int .u8 ((dL u).toNat:Int)))=.ok (.string (BA (lowL n))) (wr.setCell ⟨w.heap.size,m',none⟩ (.int .u8 ((dL u).toNat:Int))):=by
    obtain⟨cur2,k1,k2,k3,k4⟩:=R1
    have hk:(lowL n).length=65-m':=by rw[HE.out];omega
    have hh:=run_convert_bytes_back (P:=Tryz.prog) (wr.setCell ⟨w.heap.size,m',none⟩ (.int .u8 ((dL u).toNat:Int))) 47 9 5 ⟨w.heap.size,m',none⟩ (65-m') (lowL n) Tryz.underlying47 Tryz.underlying5 Tryz.underlying9 (fun j hj=>by
     rw[Addr.add_lit,cell_of_row _ _ _ cur2 _ _ k1]
     exact k4 j _ (by rw[←HE.out];exact List.getElem?_eq_getElem hj))
    rw[hk]at hh
    exact hh
   have hsl:(Instr.sliceAt 128 (.pointer (some ⟨w.heap.size,0,none⟩)) (some (.int .i64 m')) none none).run Tryz.prog (wr.setCell ⟨w.heap.size,m',none⟩ (.int .u8 ((dL u).toNat:Int)))=.ok (.slice (some ⟨w.heap.size,m',none⟩) (65-m') (65-m')) (wr.setCell ⟨w.heap.size,m',none⟩ (.int .u8 ((dL u).toNat:Int))):=by
    generalize(wr.setCell ⟨w.heap.size,m',none⟩ (.int .u8 ((dL u).toNat:Int)))=W
    have hal:Tryz.prog.arrayLen 128=65:=by simp[Program.arrayLen,Tryz.underlying128]
    have hel:Tryz.prog.elem 128=5:=by simp[Program.elem,Tryz.underlying128]
    rw[run_sliceAt_array_l W 128 ⟨w.heap.size,0,none⟩ (by rw[hal,hel];exact Tryz.underlying128) .i64 (m':Int) (by omega) (by rw[hal];omega),hal,hel]
    have hz1:(sizeOf 5).run Tryz.prog W=.ok 1 W:=by
     obtain⟨iu,hiu,_,hs1,_⟩:=info_parts (P:=Tryz.prog) (e:=5) (z:=.int .u8 0) (size:=1) (bytes:=1) (by kernel_rfl)
     simp[sizeOf,typeInfo,hiu,hs1]
    rw[hz1]
    show Result.ok (slicedAt ⟨w.heap.size,0,none⟩ (m':Int).toNat 65 65 1) W=_
    unfold slicedAt
    rw[if_neg (by omega),Addr.add_lit,Int.toNat_natCast,Nat.zero_add,Nat.mul_one]
   clear hc1 hc3 HT HH hbel R1
   go_wp2
   go_ret2
   exact⟨rfl,R4⟩
theorem ifmt_any(n:Nat)(w:World)(hn:n≤1152921504606846975)(h:w.cell? ⟨7,15,none⟩=some (.int .u8 4))(hlt:7<w.heap.size):
  Calls Tryz.prog 76 #[.int .i64 n,.int .i64 16] w fun e w'=>e=.returned (.string (BA (lowL n)))∧Below w.heap.size w w':=by
 have BI:=bits_any n w hn h hlt
 have t0:¬(n:Int)<0:=by omega
 clear h
 go_enter Tryz.func76,Tryz.ntmps76
 go_wp2_with fail
 refine BI.mono ?_
 rintro e w2⟨rfl,hb⟩
 go_wp2
 go_ret
 exact⟨rfl,hb⟩
theorem fmt_any(n:Nat)(w:World)(hn:n≤1152921504606846975)(h:w.cell? ⟨7,15,none⟩=some (.int .u8 4))(hlt:7<w.heap.size):
  Calls Tryz.prog 55 #[.int .i64 n,.int .i64 16] w fun e w'=>e=.returned (.string (BA (lowL n)))∧Below w.heap.size w w':=by
 have BI:=ifmt_any n w hn h hlt
 clear h
 go_enter Tryz.func55,Tryz.ntmps55
 go_wp2_with fail
 refine BI.mono ?_
 rintro e w2⟨rfl,hb⟩
 go_wp2
 go_ret
 exact⟨rfl,hb⟩
end Go.Proofs.YtbbeciofgnkggaaGreatDoor.lin
