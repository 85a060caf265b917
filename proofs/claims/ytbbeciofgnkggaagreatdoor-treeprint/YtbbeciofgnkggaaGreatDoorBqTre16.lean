import Derived.Test.YtbbeciofgnkggaaGreatDoorBqTre15
import Derived.Test.YtbbeciofgnkggaaGreatDoorBqNod1
import Derived.Laws.BytesArg
import Derived.Test.YtbbeciofgnkggaaGreatDoorBqTok9
import Derived.Test.YtbbeciofgnkggaaGreatDoorBqLin4
set_option linter.unusedSimpArgs false
set_option linter.unusedVariables false
set_option maxRecDepth 100000
set_option maxHeartbeats 8000000
namespace Go.Proofs.YtbbeciofgnkggaaGreatDoor.tre
open Go.RowKit nod tok
open rng(R RV ret_int ret_bool info_parts own_below')
theorem ptext_1(x y:UInt8)(hxy:⟨#[92]⟩++strOfNums [(((x.toNat:Nat):Int)-32)%256]=⟨#[92,y]⟩)(hxx:(⟨#[92]⟩:ByteArray)++⟨#[x]⟩=⟨#[92,x]⟩)(k m a b:Int)(g:Bool)(ta:Option Addr)(tl tc:Nat)(ka:Option Addr)(kl kc:Nat)(w:World):
  Calls Tryz.prog 20 #[.agg (n8 k m a b g ⟨#[x]⟩ ta tl tc ka kl kc)] w fun e w'=>e=.returned (.string (if g=true then⟨#[92,y]⟩else⟨#[92,x]⟩))∧Below w.heap.size w w':=by
 have HB0:Hid (Below w.heap.size w (w.alloc (.cells (n8 k m a b g ⟨#[x]⟩ ta tl tc ka kl kc) 25))):=(Below.refl _ w).alloc (Nat.le_refl _) _
 have HXY:Hid (⟨#[92]⟩++strOfNums [(((x.toNat:Nat):Int)-32)%256]=⟨#[92,y]⟩):=hxy
 have HXX:Hid ((⟨#[92]⟩:ByteArray)++⟨#[x]⟩=⟨#[92,x]⟩):=hxx
 clear hxy hxx
 cases g with
 |true=>
  have CV:∀z:Int,(convert 47 9 (.slice (some ⟨w.heap.size+1,0,none⟩) 1 1)).run Tryz.prog ((w.alloc (.cells (n8 k m a b true ⟨#[x]⟩ ta tl tc ka kl kc) 25)).alloc (.cells #[.int .u8 z] 5))=.ok (.string (strOfNums [z])) ((w.alloc (.cells (n8 k m a b true ⟨#[x]⟩ ta tl tc ka kl kc) 25)).alloc (.cells #[.int .u8 z] 5)):=fun z=>by
   refine run_convert_bytes_arg (P:=Tryz.prog) _ 47 5 Tryz.underlying47 Tryz.underlying5 (w.heap.size+1) 0 1 1 [z] rfl (fun i hi=>?_) 9 Tryz.underlying9
   obtain rfl:i=0:=by omega
   have hs:(w.alloc (.cells (n8 k m a b true ⟨#[x]⟩ ta tl tc ka kl kc) 25)).heap.size=w.heap.size+1:=Array.size_push ..
   rw[←hs]
   exact(Bk.new _ #[.int .u8 z] 5).cell 0 rfl
  have CV2:Hid (∀z:Int,_=_):=CV
  clear CV
  go_enter Tryz.func20,Tryz.ntmps20
  go_wp2
  rw[CV2.out]
  go_wp2
  go_ret
  exact⟨rt_str HXY.out,(HB0.out.alloc (by have:=HB0.out.size;omega) _)⟩
 |false=>
  go_enter Tryz.func20,Tryz.ntmps20
  go_wp2
  go_ret
  exact⟨rt_str HXX.out,HB0.out⟩
theorem ptext_2(n:ByteArray)(hn:¬n.size=1)(hs:n.size≤140737488355327)(k m a b:Int)(g:Bool)(ta:Option Addr)(tl tc:Nat)(ka:Option Addr)(kl kc:Nat)(w:World):
  Calls Tryz.prog 20 #[.agg (n8 k m a b g n ta tl tc ka kl kc)] w fun e w'=>e=.returned (.string (if g=true then(⟨#[92,80,123]⟩++n)++⟨#[125]⟩else(⟨#[92,112,123]⟩++n)++⟨#[125]⟩))∧Below w.heap.size w w':=by
 have HB0:Hid (Below w.heap.size w (w.alloc (.cells (n8 k m a b g n ta tl tc ka kl kc) 25))):=(Below.refl _ w).alloc (Nat.le_refl _) _
 have z1:((n.size:Int)==1)=false:=by simp;omega
 have s1:∀p:ByteArray,p.size=3→¬9223372036854775807<p.size+n.size:=by intro p hp;omega
 have s2:∀p:ByteArray,p.size=3→¬9223372036854775807<(p++n).size+(⟨#[125]⟩:ByteArray).size:=by intro p hp;rw[app_size,hp];show¬_<3+n.size+1;omega
 have t1:=s1 ⟨#[92,80,123]⟩ rfl
 have t2:=s2 ⟨#[92,80,123]⟩ rfl
 have t3:=s1 ⟨#[92,112,123]⟩ rfl
 have t4:=s2 ⟨#[92,112,123]⟩ rfl
 cases g with
 |true=>
  go_enter Tryz.func20,Tryz.ntmps20
  go_wp2
  go_ret
  exact⟨rfl,HB0.out⟩
 |false=>
  go_enter Tryz.func20,Tryz.ntmps20
  go_wp2
  go_ret
  exact⟨rfl,HB0.out⟩
theorem prop_one{n:ByteArray}(h:propD n=true)(h1:n.size=1):n=⟨#[100]⟩∨n=⟨#[119]⟩∨n=⟨#[115]⟩:=by
 obtain⟨⟨l⟩⟩:=n
 match l,h1 with
 |[x],_=>
  have e:=one_byte ⟨x.toNat,UInt8.toNat_lt x⟩
  simp only[UInt8.ofNat_toNat]at e
  rcases e h with e|e|e
  ·left;have:x=100:=UInt8.toNat_inj.1 e;subst this;rfl
  ·right;left;have:x=119:=UInt8.toNat_inj.1 e;subst this;rfl
  ·right;right;have:x=115:=UInt8.toNat_inj.1 e;subst this;rfl
theorem bytes_xy(x y:UInt8):(⟨#[x]⟩:ByteArray)++⟨#[y]⟩=⟨#[x,y]⟩:=by apply ba_eq;rw[ByteArray.data_append,Array.toList_append];rfl
/--The text of a property. -/
theorem ptext_d(n:ByteArray)(hp:propD n=true)(hs:n.size≤140737488355327)(k m a b:Int)(g:Bool)(ta:Option Addr)(tl tc:Nat)(ka:Option Addr)(kl kc:Nat)(w:World):
  Calls Tryz.prog 20 #[.agg (n8 k m a b g n ta tl tc ka kl kc)] w fun e w'=>e=.returned (.string (propT n g))∧Below w.heap.size w w':=by
 by_cases h1:n.size=1
 ·rcases prop_one hp h1 with rfl|rfl|rfl
  ·exact ptext_1 100 68 (bytes_xy 92 68) (bytes_xy 92 100) k m a b g ta tl tc ka kl kc w
  ·exact ptext_1 119 87 (bytes_xy 92 87) (bytes_xy 92 119) k m a b g ta tl tc ka kl kc w
  ·exact ptext_1 115 83 (bytes_xy 92 83) (bytes_xy 92 115) k m a b g ta tl tc ka kl kc w
 ·have e:propT n g=if g=true then(⟨#[92,80,123]⟩++n)++⟨#[125]⟩else(⟨#[92,112,123]⟩++n)++⟨#[125]⟩:=by
   unfold propT
   rw[if_neg (fun q=>h1 (by rw[q];rfl)),if_neg (fun q=>h1 (by rw[q];rfl)),if_neg (fun q=>h1 (by rw[q];rfl))]
  rw[e]
  exact ptext_2 n h1 hs k m a b g ta tl tc ka kl kc w
theorem ptext_sz(n:ByteArray)(g:Bool):(propT n g).size≤n.size+4:=by
 unfold propT
 (repeat' split)<;>first|(show 2≤_;omega)|(rw[app_size,app_size];show 3+n.size+1≤_;omega)
end Go.Proofs.YtbbeciofgnkggaaGreatDoor.tre
section
namespace Go.Proofs.YtbbeciofgnkggaaGreatDoor.tre
open Go.RowKit nod tok
open rng(R RV ret_int ret_bool info_parts own_below')
def S8(l:List UInt8):ByteArray:=⟨l.toArray⟩
theorem s8_app(a b:List UInt8):S8 a++S8 b=S8 (a++b):=by apply ba_eq;rw[ByteArray.data_append,Array.toList_append];rfl
theorem s8_of(t:ByteArray):S8 t.data.toList=t:=by obtain⟨⟨l⟩⟩:=t;rfl
theorem s8_sz(l:List UInt8):(S8 l).size=l.length:=rfl
/--The text of a class, that answers so. -/
abbrev ClsT(N:Nat):Prop:=∀(t:Nd)(v:Value)(B:Nat)(w:World)(d:Int)(sd:Bool),t.sz≤N→t.sz≤60000→shortN t→NV B w t v→B≤w.heap.size→insD N t d=true→Calls Tryz.prog 19 #[v,.bool sd] w fun e w'=>e=.returned (.string (S8 (if sd=true then insT N t else(openC t.neg).data.toList++insT N t++[93])))∧Below w.heap.size w w'
theorem tx_le(r:Int)(c:Bool):(TX (printL r c)).size≤6:=by
 rw[tx_size]
 by_cases h:utf.len r=0
 ·rw[print_none r c h];exact Nat.zero_le _
 ·exact(print_pos r c h).2
def nodeB:Nat:=140737488355347
mutual
theorem flat_le{F:Nd→List UInt8}:∀(ks:List Nd),(∀x,x∈ks→(F x).length≤nodeB*x.sz)→(ks.flatMap F).length≤nodeB*szL ks
 |[],_=>Nat.zero_le _
 |x::xs,h=>by
  rw[List.flatMap_cons,List.length_append,szL,Nat.mul_add]
  exact Nat.add_le_add (h x (by simp)) (flat_le xs (fun y hy=>h y (by simp[hy])))
end
theorem sz_pos(t:Nd):1≤t.sz:=by cases t;rw[Nd.sz];omega
theorem mem_le{ins:Nd→List UInt8}{t:Nd}(hs:shortN t)(h:(ins t).length+18≤nodeB*t.sz):(memT ins t).length≤nodeB*t.sz:=by
 have hp:=sz_pos t
 have hn:t.name.size≤140737488355327:=by cases t;exact(by rw[shortN]at hs;exact hs.1)
 have hC:nodeB*1≤nodeB*t.sz:=Nat.mul_le_mul_left _ hp
 have e1:=tx_le t.a true
 have e2:=tx_le t.b true
 have e3:=ptext_sz t.name t.neg
 have l1:(TX (printL t.a true)).data.toList.length=(TX (printL t.a true)).size:=Array.length_toList
 have l2:(TX (printL t.b true)).data.toList.length=(TX (printL t.b true)).size:=Array.length_toList
 have l3:(propT t.name t.neg).data.toList.length=(propT t.name t.neg).size:=Array.length_toList
 have l4:(openC t.neg).data.toList.length≤2:=by unfold openC;split<;>decide
 have hB:nodeB=140737488355347:=rfl
 generalize nodeB*t.sz=M at*
 rw[hB]at hC
 unfold memT
 (repeat' split)<;>(try simp only[List.length_append,List.length_cons,List.length_nil])<;>omega
theorem ins_le:∀(N:Nat)(t:Nd),shortN t→(insT N t).length+18≤nodeB*t.sz
 |0,t,_=>by
  have hp:=sz_pos t
  have hC:nodeB*1≤nodeB*t.sz:=Nat.mul_le_mul_left _ hp
  have hB:nodeB=140737488355347:=rfl
  show 0+18≤_
  generalize nodeB*t.sz=M at*
  omega
 |N+1,.mk k m a b g n s ks,hs=>by
  rw[shortN]at hs
  have each:∀x,x∈ks→(insT N x).length+18≤nodeB*x.sz:=fun x hx=>ins_le N x (short_mem hs.2 hx)
  have e1:(ks.flatMap (memT (insT N))).length≤nodeB*szL ks:=flat_le ks (fun x hx=>mem_le (short_mem hs.2 hx) (each x hx))
  have hB:nodeB=140737488355347:=rfl
  rw[Nd.sz,Nat.mul_add]
  show(if m=0 then ks.flatMap (memT (insT N))else _).length+18≤_
  by_cases h0:m=0
  ·rw[if_pos h0]
   generalize nodeB*szL ks=M at*
   rw[hB];omega
  ·rw[if_neg h0]
   match ks,each with
   |[],_=>show 0+18≤_;rw[hB];omega
   |[x],_=>show 0+18≤_;generalize nodeB*szL [x]=M at*;rw[hB];omega
   |[l,r],each=>
    have h1:=each l (by simp)
    have h2:=each r (by simp)
    have h3:szL [l,r]=l.sz+r.sz:=by rw[szL,szL,szL];omega
    have h4:(textP m opTexts).data.toList.length≤2:=by
     unfold textP
     split
     ·exact Nat.zero_le _
     ·match m.toNat with
      |0=>exact Nat.zero_le _
      |1=>exact Nat.le_refl _
      |2=>exact Nat.le_refl _
      |3=>exact Nat.le_refl _
      |_+4=>exact Nat.zero_le _
    show(insT N l++((textP m opTexts).data.toList++insT N r)).length+18≤_
    rw[h3,Nat.mul_add,List.length_append,List.length_append]
    generalize nodeB*l.sz=M1 at*
    generalize nodeB*r.sz=M2 at*
    rw[hB];omega
   |x::y::z::zs,_=>show 0+18≤_;generalize nodeB*szL (x::y::z::zs)=M at*;rw[hB];omega
end Go.Proofs.YtbbeciofgnkggaaGreatDoor.tre
end
namespace Go.Proofs.YtbbeciofgnkggaaGreatDoor.tre
open Go.RowKit nod tok
open rng(R RV ret_int ret_bool info_parts own_below')
theorem mt_1(m a b:Int)(g:Bool)(n:ByteArray)(ta:Option Addr)(tl tc:Nat)(ka:Option Addr)(kl kc:Nat)(w:World):
  Calls Tryz.prog 28 #[.agg (n8 1 m a b g n ta tl tc ka kl kc)] w fun e w'=>e=.returned (.string (TX (printL a true)))∧Below w.heap.size w w':=by
 have HB0:Hid (Below w.heap.size w (w.alloc (.cells (n8 1 m a b g n ta tl tc ka kl kc) 25))):=(Below.refl _ w).alloc (Nat.le_refl _) _
 have C:=rprint_any a true (w.alloc (.cells (n8 1 m a b g n ta tl tc ka kl kc) 25))
 go_enter Tryz.func28,Tryz.ntmps28
 go_wp2_with fail
 refine C.mono ?_
 rintro e w1⟨rfl,b1⟩
 have HB1:Hid (Below w.heap.size w w1):=HB0.out.trans (below_less b1 HB0.out.size)
 clear C b1
 go_wp2
 go_ret
 exact⟨rfl,HB1.out⟩
theorem mt_5(m a b:Int)(g:Bool)(n:ByteArray)(ta:Option Addr)(tl tc:Nat)(ka:Option Addr)(kl kc:Nat)(w:World)(hp:propD n=true)(hs:n.size≤140737488355327):
  Calls Tryz.prog 28 #[.agg (n8 5 m a b g n ta tl tc ka kl kc)] w fun e w'=>e=.returned (.string (propT n g))∧Below w.heap.size w w':=by
 have HB0:Hid (Below w.heap.size w (w.alloc (.cells (n8 5 m a b g n ta tl tc ka kl kc) 25))):=(Below.refl _ w).alloc (Nat.le_refl _) _
 have C:=ptext_d n hp hs 5 m a b g ta tl tc ka kl kc (w.alloc (.cells (n8 5 m a b g n ta tl tc ka kl kc) 25))
 clear hp hs
 go_enter Tryz.func28,Tryz.ntmps28
 go_wp2_with fail
 refine C.mono ?_
 rintro e w1⟨rfl,b1⟩
 have HB1:Hid (Below w.heap.size w w1):=HB0.out.trans (below_less b1 HB0.out.size)
 clear C b1
 go_wp2
 go_ret
 exact⟨rfl,HB1.out⟩
theorem mt_3(m a b:Int)(g:Bool)(n:ByteArray)(ta:Option Addr)(tl tc:Nat)(ka:Option Addr)(kl kc:Nat)(w:World)(r:ByteArray)(C:Calls Tryz.prog 19 #[.agg (n8 3 m a b g n ta tl tc ka kl kc),.bool false] (w.alloc (.cells (n8 3 m a b g n ta tl tc ka kl kc) 25)) fun e w'=>e=.returned (.string r)∧Below (w.alloc (.cells (n8 3 m a b g n ta tl tc ka kl kc) 25)).heap.size (w.alloc (.cells (n8 3 m a b g n ta tl tc ka kl kc) 25)) w'):
  Calls Tryz.prog 28 #[.agg (n8 3 m a b g n ta tl tc ka kl kc)] w fun e w'=>e=.returned (.string (r))∧Below w.heap.size w w':=by
 have HB0:Hid (Below w.heap.size w (w.alloc (.cells (n8 3 m a b g n ta tl tc ka kl kc) 25))):=(Below.refl _ w).alloc (Nat.le_refl _) _
 go_enter Tryz.func28,Tryz.ntmps28
 go_wp2_with fail
 refine C.mono ?_
 rintro e w1⟨rfl,b1⟩
 have HB1:Hid (Below w.heap.size w w1):=HB0.out.trans (below_less b1 HB0.out.size)
 clear C b1
 go_wp2
 go_ret
 exact⟨rfl,HB1.out⟩
theorem mt_4(m a b:Int)(g:Bool)(n:ByteArray)(ta:Option Addr)(tl tc:Nat)(ka:Option Addr)(kl kc:Nat)(w:World):
  Calls Tryz.prog 28 #[.agg (n8 4 m a b g n ta tl tc ka kl kc)] w fun e w'=>e=.returned (.string ((TX (printL a true)++⟨#[45]⟩)++TX (printL b true)))∧Below w.heap.size w w':=by
 obtain⟨W0,hW0,HW0,b0,HX0⟩:=st0 w (n8 4 m a b g n ta tl tc ka kl kc) 25
 have HB0:Hid (Below w.heap.size w W0):=b0
 have HSd:Hid (∀w',Below W0.heap.size W0 w'→w'.cell? ⟨w.heap.size,2,none⟩=some (.int .i64 a)∧w'.cell? ⟨w.heap.size,3,none⟩=some (.int .i64 b)):=fun w' d=>⟨(HX0.out.on d).cell 2 rfl,(HX0.out.on d).cell 3 rfl⟩
 have C2:Hid (∀r W,Calls Tryz.prog 18 #[.int .i64 r,.bool true] W fun e w'=>e=.returned (.string (TX (printL r true)))∧Below W.heap.size W w'):=fun r W=>rprint_any r true W
 have e1:=tx_le a true
 have e2:=tx_le b true
 have CA:=fun W=>C2.out a W
 have CB:=fun W=>C2.out b W
 generalize TX (printL a true)=A at*
 generalize TX (printL b true)=B at*
 have HCA:Hid (∀W,Calls Tryz.prog 18 #[.int .i64 a,.bool true] W _):=CA
 have HCB:Hid (∀W,Calls Tryz.prog 18 #[.int .i64 b,.bool true] W _):=CB
 have t1:¬9223372036854775807<A.size+1:=by omega
 have t2:¬9223372036854775807<A.size+1+B.size:=by omega
 clear e1 e2 C2 CA CB hW0 b0
 go_enter Tryz.func28,Tryz.ntmps28
 go_upto_region 1 with fail
 rw[HW0.out]
 clear HW0
 have x0:=HX0.out.cell 0 (u:=.int .i64 4) rfl
 obtain⟨-,x1,x2,x3,x4,x5,x6,x7⟩:=at8c HX0.out
 go_upto_region 5 with fail
 refine wp_region_noPanic (lin.wp_region_k 8 (fun w'=>w'.cell? ⟨w.heap.size,2,none⟩=some (.int .i64 a)∧w'.cell? ⟨w.heap.size,3,none⟩=some (.int .i64 b)) (by kernel_rfl) (HSd.out _ (Below.refl _ _).drew) fun hHeld=>?_)
 refine lin.tK 0 (v:=?_) ?_
 try simp only[Act.put,lin.sm]
 refine lin.tK 1 (v:=?_) ?_
 try simp only[Act.put,lin.sm]
 refine lin.tK 4 (v:=?_) ?_
 try simp only[Act.put,lin.sm]
 refine lin.tK 5 (v:=?_) ?_
 try simp only[Act.put,lin.sm]
 obtain⟨Wd,hWd⟩:∃Wd,W0.drew=Wd:=⟨_,rfl⟩
 have HBd:Hid (Below W0.heap.size W0 Wd):=by unfold Hid;rw[←hWd];exact(Below.refl _ _).drew
 rw[hWd]at hHeld⊢
 clear hWd x0 x1 x2 x3 x4 x5 x6 x7
 have CC:=HCA.out Wd
 refine lin.wpAnyK_one (j:=2) (by kernel_rfl) (by decide) rfl (fun K hK=>?_)
 go_simp
 refine CC.mono ?_
 rintro e w1⟨rfl,b1⟩
 have HB01:Hid (Below W0.heap.size W0 w1):=HBd.out.trans (below_less b1 HBd.out.size)
 refine hK.out _ _ (HSd.out _ HB01.out) (fun hHeld=>?_)
 clear hK K CC b1 HCA HBd
 try simp only[Act.put,lin.sm]
 refine lin.tK 3 (v:=?_) ?_
 try simp only[Act.put,lin.sm]
 have CC:=HCB.out w1
 refine lin.wpAnyK_one (j:=6) (by kernel_rfl) (by decide) rfl (fun K hK=>?_)
 go_simp
 refine CC.mono ?_
 rintro e w2⟨rfl,b1⟩
 have HB02:Hid (Below W0.heap.size W0 w2):=HB01.out.trans (below_less b1 HB01.out.size)
 have HB2:Hid (Below w.heap.size w w2):=HB0.out.trans (below_less HB02.out HB0.out.size)
 refine hK.out _ _ (HSd.out _ HB02.out) (fun hHeld=>?_)
 clear hK K CC b1 HCB HB0 HB01 HX0
 try simp only[Act.put,lin.sm]
 refine lin.tK 7 (v:=?_) ?_
 try simp only[Act.put,lin.sm]
 refine lin.wpAnyK_last (by kernel_rfl) rfl (fun K hK=>?_)
 go_simp
 refine hK.out _ _ ?_
 clear hK K
 try simp only[Act.put,lin.sm]
 refine⟨by kernel_rfl,?_⟩
 refine NoPanic.normal ?_
 go_wp2
 go_ret
 exact⟨rfl,HB2.out⟩
/--The text of a member. -/
theorem member_t(N:Nat)(HC:ClsT N)(t:Nd)(v:Value)(B:Nat)(w:World)(d:Int)(hz:t.sz≤N)(hz2:t.sz≤60000)(hs:shortN t)(hv:NV B w t v)(hB:B≤w.heap.size)(hm:memD (insD N) t d=true):Calls Tryz.prog 28 #[v] w fun e w'=>e=.returned (.string (S8 (memT (insT N) t)))∧Below w.heap.size w w':=by
 obtain⟨k,m,a,b,g,n,s,ks,ta,tc,ka,kc,rfl,rfl,_,_,_,hk1,hk2,hk3,hkv⟩:=hv.open
 have hs':=hs
 rw[shortN]at hs
 have hh:(if k=1 then decide (utf.len a≠0)else if k=4 then decide (a≤b)&&(decide (utf.len a≠0)&&decide (utf.len b≠0))else if k=5 then propD n else if k=3 then decide (d+1≤50)&&insD N (.mk k m a b g n s ks) (d+1)else false)=true:=by
  unfold memD at hm
  rw[Bool.and_eq_true]at hm
  exact hm.2
 by_cases k1:k=1
 ·subst k1
  have e:S8 (memT (insT N) (.mk 1 m a b g n s ks))=TX (printL a true):=s8_of _
  rw[e]
  exact mt_1 m a b g n ta s.length tc ka ks.length kc w
 by_cases k4:k=4
 ·subst k4
  have e:S8 (memT (insT N) (.mk 4 m a b g n s ks))=(TX (printL a true)++⟨#[45]⟩)++TX (printL b true):=by
   show S8 ((TX (printL a true)).data.toList++([45]++(TX (printL b true)).data.toList))=_
   rw[←s8_app,←s8_app,s8_of,s8_of,←ByteArray.append_assoc]
   rfl
  rw[e]
  exact mt_4 m a b g n ta s.length tc ka ks.length kc w
 by_cases k5:k=5
 ·subst k5
  have e:S8 (memT (insT N) (.mk 5 m a b g n s ks))=propT n g:=s8_of _
  rw[e]
  exact mt_5 m a b g n ta s.length tc ka ks.length kc w hh hs.1
 by_cases k3:k=3
 ·subst k3
  have hi:insD N (.mk 3 m a b g n s ks) (d+1)=true:=by
   rw[if_neg k1,if_neg k4,if_neg k5,if_pos rfl,Bool.and_eq_true]at hh
   exact hh.2
  have ba:Below w.heap.size w (w.alloc (.cells (n8 3 m a b g n ta s.length tc ka ks.length kc) 25)):=(Below.refl _ w).alloc (Nat.le_refl _) _
  exact mt_3 m a b g n ta s.length tc ka ks.length kc w _ (HC _ _ B _ (d+1) false hz hz2 hs' (hv.keep (below_less ba hB)) (Nat.le_trans hB ba.size) hi)
 ·rw[if_neg k1,if_neg k4,if_neg k5,if_neg k3]at hh
  cases hh
end Go.Proofs.YtbbeciofgnkggaaGreatDoor.tre
namespace Go.Proofs.YtbbeciofgnkggaaGreatDoor.tre
open Go.RowKit nod tok
open rng(R RV ret_int ret_bool info_parts own_below')
def clsT(sd g:Bool)(L:List UInt8):List UInt8:=if sd=true then L else(openC g).data.toList++L++[93]
theorem flat_take{F:Nd→List UInt8}{ks:List Nd}{j:Nat}{t:Nd}(h:ks[j]?=some t):(ks.take (j+1)).flatMap F=(ks.take j).flatMap F++F t:=by
 rw[takeX h,List.flatMap_append]
 simp
theorem flat_part{F:Nd→List UInt8}(ks:List Nd)(j:Nat):((ks.take j).flatMap F).length≤(ks.flatMap F).length:=by
 have e:ks.flatMap F=(ks.take j).flatMap F++(ks.drop j).flatMap F:=by rw[←List.flatMap_append,List.take_append_drop]
 rw[e,List.length_append]
 omega
theorem s8_wrap(p L:List UInt8):(⟨p.toArray⟩++S8 L)++⟨#[93]⟩=S8 (p++L++[93]):=by
 rw[←s8_app,←s8_app];rfl
theorem ct_union(k:Int)(a b:Int)(g:Bool)(n:ByteArray)(ta:Option Addr)(tl tc:Nat)(ka:Option Addr)(kl kc:Nat)(ks:List Nd)(B:Nat)(w:World)(sd:Bool)(F:Nd→List UInt8)(hkl:ks.length=kl)(hkm:kl≤9223372036854775807)(hkc:kl≤kc)(hkv:KV B w ka ks)(hB:B≤w.heap.size)(hL:(ks.flatMap F).length≤9223372036854775000)
  (HI:Hid (∀(t:Nd)(v:Value)(W:World),t∈ks→NV B W t v→B≤W.heap.size→Calls Tryz.prog 28 #[v] W fun e w'=>e=.returned (.string (S8 (F t)))∧Below W.heap.size W w')):
  Calls Tryz.prog 19 #[.agg (n8 k 0 a b g n ta tl tc ka kl kc),.bool sd] w fun e w'=>e=.returned (.string (S8 (clsT sd g (ks.flatMap F))))∧Below w.heap.size w w':=by
 obtain⟨W0,hW0,HW0,b0,HX0⟩:=st0 w (n8 k 0 a b g n ta tl tc ka kl kc) 25
 have HB0:Hid (Below w.heap.size w W0):=b0
 have HBR:Hid (Below W0.heap.size W0 W0):=Below.refl _ _
 have HBS:Hid (B≤W0.heap.size):=Nat.le_trans hB b0.size
 have HLN:Hid (ks.length=kl):=hkl
 have HK:Hid (KV B W0 ka ks):=hkv.below (below_less b0 hB)
 obtain⟨RS,hRS⟩:∃RS,S8 (clsT sd g (ks.flatMap F))=RS:=⟨_,rfl⟩
 rw[hRS]
 have HRS:Hid (S8 (clsT sd g (ks.flatMap F))=RS):=hRS
 have HTL:Hid ((ks.flatMap F).length≤9223372036854775000):=hL
 clear hRS hW0 b0 hkl hkv hB hL
 go_enter Tryz.func19,Tryz.ntmps19
 go_upto_region 2 with fail
 rw[HW0.out]
 clear HW0
 obtain⟨x0,x1,x2,x3,x4,x5,x6,x7⟩:=at8c HX0.out
 go_wp2
 go_loopw[5,14](fun s i wr=>∃j:Nat,j≤kl∧i=.int .i64 j∧s=.string (S8 ((ks.take j).flatMap F))∧Hid (Below W0.heap.size W0 wr))(fun _ i _=>kl-(intOf i).toNat)
 case atStart=>exact⟨0,Nat.zero_le _,rfl,rfl,HBR⟩
 case round=>
  clear HBR x0 x1 x2 x3 x4 x5 x6 x7
  obtain⟨j,hj,rfl,rfl,HW⟩:=hrel
  by_cases hlt:j<kl
  ·have hlt':(j:Int)<(kl:Int):=by omega
   obtain⟨t,ht⟩:=getX HLN.out hlt
   obtain⟨bb,off,rfl,hka⟩:=(HK.out.below (below_less HW.out HBS.out)).some (by have:=HLN.out;omega)
   have hft:=flat_take (F:=F) ht
   obtain⟨k',m',a',b',g',n',s',kk,sa',sc',ao',cap',rfl,⟨e0,e1,e2,e3,e4,e5,e6,e7⟩,hv'⟩:=hka.kid ht
   have hmem:=List.mem_of_getElem? ht
   have hBr:B≤wr.heap.size:=Nat.le_trans HBS.out HW.out.size
   have C:=HI.out (.mk k' m' a' b' g' n' s' kk) _ (wr.alloc (.cells (n8 k' m' a' b' g' n' sa' s'.length sc' ao' kk.length cap') 25)) hmem (hv'.keep ((Below.refl _ wr).alloc hBr _)) (by simp;omega)
   have hq:=flat_part (F:=F) ks (j+1)
   generalize s'.length=sl' at*
   generalize kk.length=nk' at*
   rw[hft,List.length_append]at hq
   generalize F (.mk k' m' a' b' g' n' s' kk)=T at*
   have HFT:Hid ((ks.take (j+1)).flatMap F=(ks.take j).flatMap F++T):=hft
   have t1:¬9223372036854775807<(S8 ((ks.take j).flatMap F)).size+(S8 T).size:=by have:=HTL.out;rw[s8_sz,s8_sz];omega
   have HC1:Hid (Below W0.heap.size W0 (wr.alloc (.cells (n8 k' m' a' b' g' n' sa' sl' sc' ao' nk' cap') 25))):=HW.out.alloc HW.out.size _
   clear HW hka hv' ht hmem hBr hft hq
   go_wp2_with(go_at_call 28;refine C.mono ?_;rintro e w2⟨rfl,dd⟩;have HG:Hid (Below W0.heap.size W0 w2):=HC1.out.trans (below_less dd HC1.out.size);clear dd)
   go_roundw
   case rel=>exact⟨j+1,by omega,by go_num,(by rw[HFT.out,←s8_app]),HG⟩
   case measure=>simp[intOf];omega
  ·have hj2:(ks.take j).flatMap F=ks.flatMap F:=by rw[List.take_of_length_le (by have:=HLN.out;omega)]
   have HBZ:Hid (Below w.heap.size w wr):=HB0.out.trans (below_less HW.out HB0.out.size)
   obtain⟨x0,x1,x2,x3,x4,x5,x6,x7⟩:=at8c (HX0.out.on HW.out)
   rw[hj2]
   have t1:¬9223372036854775807<2+(S8 (ks.flatMap F)).size:=by have:=HTL.out;rw[s8_sz];omega
   have t2:¬9223372036854775807<2+(S8 (ks.flatMap F)).size+1:=by have:=HTL.out;rw[s8_sz];omega
   have t3:¬9223372036854775807<1+(S8 (ks.flatMap F)).size:=by have:=HTL.out;rw[s8_sz];omega
   have t4:¬9223372036854775807<1+(S8 (ks.flatMap F)).size+1:=by have:=HTL.out;rw[s8_sz];omega
   clear HK HI hj2 HW HX0 HB0 HBS
   cases sd with
   |true=>
    go_wp2
    go_ret
    exact⟨rt_str HRS.out,HBZ.out⟩
   |false=>
    cases g with
    |true=>
     go_wp2
     go_ret
     exact⟨rt_str ((s8_wrap [91,94] _).trans HRS.out),HBZ.out⟩
    |false=>
     go_wp2
     go_ret
     exact⟨rt_str ((s8_wrap [91] _).trans HRS.out),HBZ.out⟩
end Go.Proofs.YtbbeciofgnkggaaGreatDoor.tre
namespace Go.Proofs.YtbbeciofgnkggaaGreatDoor.tre
open Go.RowKit nod tok
open rng(R RV ret_int ret_bool info_parts own_below')
theorem ct_sides(k a b:Int)(mn:Nat)(g:Bool)(n:ByteArray)(ta:Option Addr)(tl tc:Nat)(kb ko kl kc:Nat)(lk lm la lb:Int)(lg:Bool)(ln:ByteArray)(lsa lao:Option Addr)(lsl lsc lnk lcap:Nat)(rk rm ra rb:Int)(rg:Bool)(rn:ByteArray)(rsa rao:Option Addr)(rsl rsc rnk rcap:Nat)(w:World)(sd:Bool)(TL TR:List UInt8)(OP:ByteArray)(hm0:0<mn)(hm:mn≤3)(hkl:kl=2)(hkc:2≤kc)(hOP:(#[.string ⟨#[]⟩,.string ⟨#[38,38]⟩,.string ⟨#[45,45]⟩,.string ⟨#[126,126]⟩]:Array Value)[mn]?=some (.string OP))(hos:OP.size=2)
  (hL:At8 w kb ko (.agg (n8 lk lm la lb lg ln lsa lsl lsc lao lnk lcap)))(hR:At8 w kb (ko+8) (.agg (n8 rk rm ra rb rg rn rsa rsl rsc rao rnk rcap)))(hkb:kb<w.heap.size)(hlen:TL.length+TR.length≤9223372036854775000)
  (HCL:Hid (∀W,Below w.heap.size w W→Calls Tryz.prog 19 #[.agg (n8 lk lm la lb lg ln lsa lsl lsc lao lnk lcap),.bool true] W fun e w'=>e=.returned (.string (S8 TL))∧Below W.heap.size W w'))
  (HCR:Hid (∀W,Below w.heap.size w W→Calls Tryz.prog 19 #[.agg (n8 rk rm ra rb rg rn rsa rsl rsc rao rnk rcap),.bool true] W fun e w'=>e=.returned (.string (S8 TR))∧Below W.heap.size W w')):
  Calls Tryz.prog 19 #[.agg (n8 k (mn:Int) a b g n ta tl tc (some ⟨kb,ko,none⟩) kl kc),.bool sd] w fun e w'=>e=.returned (.string (S8 (clsT sd g (TL++(OP.data.toList++TR)))))∧Below w.heap.size w w':=by
 subst hkl
 obtain⟨W0,hW0,HW0,b0,HX0⟩:=st0 w (n8 k (mn:Int) a b g n ta tl tc (some ⟨kb,ko,none⟩) 2 kc) 25
 have HB0:Hid (Below w.heap.size w W0):=b0
 have HCL0:Hid (∀W,Below W0.heap.size W0 W→Calls Tryz.prog 19 #[.agg (n8 lk lm la lb lg ln lsa lsl lsc lao lnk lcap),.bool true] W fun e w'=>e=.returned (.string (S8 TL))∧Below W.heap.size W w'):=fun W h=>HCL.out W (b0.trans (below_less h b0.size))
 have HCR0:Hid (∀W,Below W0.heap.size W0 W→Calls Tryz.prog 19 #[.agg (n8 rk rm ra rb rg rn rsa rsl rsc rao rnk rcap),.bool true] W fun e w'=>e=.returned (.string (S8 TR))∧Below W.heap.size W w'):=fun W h=>HCR.out W (b0.trans (below_less h b0.size))
 have HSd:Hid (∀w',Below W0.heap.size W0 w'→(w'.cell? ⟨w.heap.size,1,none⟩=some (.int .i64 (mn:Int))∧w'.cell? ⟨w.heap.size,7,none⟩=some (.slice (some ⟨kb,ko,none⟩) 2 kc))∧(w'.cell? ⟨kb,ko,none⟩=some (.int .i64 lk)∧w'.cell? ⟨kb,ko+1,none⟩=some (.int .i64 lm)∧w'.cell? ⟨kb,ko+2,none⟩=some (.int .i64 la)∧w'.cell? ⟨kb,ko+3,none⟩=some (.int .i64 lb)∧w'.cell? ⟨kb,ko+4,none⟩=some (.bool lg)∧w'.cell? ⟨kb,ko+5,none⟩=some (.string ln)∧w'.cell? ⟨kb,ko+6,none⟩=some (.slice lsa lsl lsc)∧w'.cell? ⟨kb,ko+7,none⟩=some (.slice lao lnk lcap))∧w'.cell? ⟨kb,ko+8,none⟩=some (.int .i64 rk)∧w'.cell? ⟨kb,ko+9,none⟩=some (.int .i64 rm)∧w'.cell? ⟨kb,ko+10,none⟩=some (.int .i64 ra)∧w'.cell? ⟨kb,ko+11,none⟩=some (.int .i64 rb)∧w'.cell? ⟨kb,ko+12,none⟩=some (.bool rg)∧w'.cell? ⟨kb,ko+13,none⟩=some (.string rn)∧w'.cell? ⟨kb,ko+14,none⟩=some (.slice rsa rsl rsc)∧w'.cell? ⟨kb,ko+15,none⟩=some (.slice rao rnk rcap)):=fun w' d=>⟨⟨(HX0.out.on d).cell 1 rfl,(HX0.out.on d).cell 7 rfl⟩,at8_cells (hL.below (b0.trans (below_less d b0.size)) hkb),at8_cells (hR.below (b0.trans (below_less d b0.size)) hkb)⟩
 have HOP:Hid ((#[.string ⟨#[]⟩,.string ⟨#[38,38]⟩,.string ⟨#[45,45]⟩,.string ⟨#[126,126]⟩]:Array Value)[mn]?=some (.string OP)):=hOP
 obtain⟨RS,hRS⟩:∃RS,S8 (clsT sd g (TL++(OP.data.toList++TR)))=RS:=⟨_,rfl⟩
 rw[hRS]
 have HRS:Hid (S8 (clsT sd g (TL++(OP.data.toList++TR)))=RS):=hRS
 have HJ:Hid ((S8 TL++OP)++S8 TR=S8 (TL++(OP.data.toList++TR))):=by unfold Hid;rw[←s8_app,←s8_app,s8_of,ByteArray.append_assoc]
 have u1:¬9223372036854775807<(S8 TL).size+OP.size:=by rw[s8_sz];omega
 have u2:¬9223372036854775807<(S8 TL).size+OP.size+(S8 TR).size:=by rw[s8_sz,s8_sz];omega
 have hJs:(S8 (TL++(OP.data.toList++TR))).size=TL.length+(2+TR.length):=by
  rw[s8_sz,List.length_append,List.length_append]
  have:OP.data.toList.length=OP.size:=Array.length_toList
  omega
 have HTS:Hid ((S8 (TL++(OP.data.toList++TR))).size≤9223372036854775010):=by unfold Hid;omega
 have hm4:(mn:Int)<4:=by omega
 have hmz:((mn:Int)==0)=false:=by simp;omega
 clear hRS hW0 b0 hL hR hkb hOP hlen hJs hos
 go_enter Tryz.func19,Tryz.ntmps19
 go_upto_region 2 with fail
 rw[HW0.out]
 clear HW0
 obtain⟨x0,x1,x2,x3,x4,x5,x6,x7⟩:=at8c HX0.out
 go_upto_region 8 with fail
 replace HCL:=HCL0
 replace HCR:=HCR0
 clear HCL0 HCR0
 refine wp_region_noPanic (wp_region_held_drew (S:=fun w'=>(w'.cell? ⟨w.heap.size,1,none⟩=some (.int .i64 (mn:Int))∧w'.cell? ⟨w.heap.size,7,none⟩=some (.slice (some ⟨kb,ko,none⟩) 2 kc))∧(w'.cell? ⟨kb,ko,none⟩=some (.int .i64 lk)∧w'.cell? ⟨kb,ko+1,none⟩=some (.int .i64 lm)∧w'.cell? ⟨kb,ko+2,none⟩=some (.int .i64 la)∧w'.cell? ⟨kb,ko+3,none⟩=some (.int .i64 lb)∧w'.cell? ⟨kb,ko+4,none⟩=some (.bool lg)∧w'.cell? ⟨kb,ko+5,none⟩=some (.string ln)∧w'.cell? ⟨kb,ko+6,none⟩=some (.slice lsa lsl lsc)∧w'.cell? ⟨kb,ko+7,none⟩=some (.slice lao lnk lcap))∧w'.cell? ⟨kb,ko+8,none⟩=some (.int .i64 rk)∧w'.cell? ⟨kb,ko+9,none⟩=some (.int .i64 rm)∧w'.cell? ⟨kb,ko+10,none⟩=some (.int .i64 ra)∧w'.cell? ⟨kb,ko+11,none⟩=some (.int .i64 rb)∧w'.cell? ⟨kb,ko+12,none⟩=some (.bool rg)∧w'.cell? ⟨kb,ko+13,none⟩=some (.string rn)∧w'.cell? ⟨kb,ko+14,none⟩=some (.slice rsa rsl rsc)∧w'.cell? ⟨kb,ko+15,none⟩=some (.slice rao rnk rcap)) (by kernel_rfl) (HSd.out _ (Below.refl _ _).drew) fun hHeld=>?_)
 obtain⟨Wc,hWc⟩:∃Wc,W0.drew=Wc:=⟨_,rfl⟩
 have HBW:Hid (Below W0.heap.size W0 Wc):=by unfold Hid;rw[←hWc];exact(Below.refl _ _).drew
 rw[hWc]at hHeld⊢
 clear hWc x0 x1 x2 x3 x4 x5 x6 x7
 refine lin.tH 0 (v:=?_) ?_
 try simp only[Act.put,lin.sm]
 refine lin.tH 1 (v:=?_) ?_
 try simp only[Act.put,lin.sm]
 refine lin.tH 2 (v:=?_) ?_
 try simp only[Act.put,lin.sm]
 refine lin.tH 3 (v:=?_) ?_
 try simp only[Act.put,lin.sm]
 refine lin.tH 6 (v:=?_) ?_
 try simp only[Act.put,lin.sm]
 refine lin.tH 7 (v:=?_) ?_
 try simp only[Act.put,lin.sm]
 refine lin.tH 11 (v:=?_) ?_
 try simp only[Act.put,lin.sm]
 refine lin.tH 12 (v:=?_) ?_
 try simp only[Act.put,lin.sm]
 refine lin.tH 13 (v:=?_) ?_
 try simp only[Act.put,lin.sm]
 refine lin.tH 14 (v:=?_) ?_
 try simp only[Act.put,lin.sm]
 refine wpAnyH_ready (rs:=[4,5]) (by kernel_rfl) (by simp) ?_;refine(AllReadyH.cons rfl (fun K hK4=>?_) (AllReadyH.cons rfl (fun K hK5=>?_) AllReadyH.nil))
 iterate 4
  all_goals
   first
    |(have q:=hK4;clear q;have CC:=HCL.out Wc HBW.out;go_simp;refine CC.mono ?_;rintro e Wn⟨rfl,d⟩;clear CC;(try(replace H5:Hid (Bk Wn p5 #[.string ⟨#[]⟩,.string ⟨#[38,38]⟩,.string ⟨#[45,45]⟩,.string ⟨#[126,126]⟩] 9):=H5.out.on d));replace HBW:Hid (Below W0.heap.size W0 Wn):=HBW.out.trans (below_less d HBW.out.size);have H4:Hid (True):=trivial;refine hK4.out _ _ (HSd.out _ HBW.out) (fun hHeld=>?_);clear hK4 K d;rename World=>Wc;(try simp only[Act.put,lin.sm]))
    |(have q:=hK15;clear q;have CC:=HCR.out Wc HBW.out;go_simp;refine CC.mono ?_;rintro e Wn⟨rfl,d⟩;clear CC;(try(replace H5:Hid (Bk Wn p5 #[.string ⟨#[]⟩,.string ⟨#[38,38]⟩,.string ⟨#[45,45]⟩,.string ⟨#[126,126]⟩] 9):=H5.out.on d));replace HBW:Hid (Below W0.heap.size W0 Wn):=HBW.out.trans (below_less d HBW.out.size);have H15:Hid (True):=trivial;refine hK15.out _ _ (HSd.out _ HBW.out) (fun hHeld=>?_);clear hK15 K d;rename World=>Wc;(try simp only[Act.put,lin.sm]))
    |(have q:=hK5;clear q;go_simp;obtain⟨Wn,hWn⟩:∃Wn,Wc.alloc (.cells #[.string ⟨#[]⟩,.string ⟨#[38,38]⟩,.string ⟨#[45,45]⟩,.string ⟨#[126,126]⟩] 9)=Wn:=⟨_,rfl⟩;have d:Below Wc.heap.size Wc Wn:=(by rw[←hWn];exact(Below.refl _ _).alloc (Nat.le_refl _) _);have k:Bk Wn Wc.heap.size #[.string ⟨#[]⟩,.string ⟨#[38,38]⟩,.string ⟨#[45,45]⟩,.string ⟨#[126,126]⟩] 9:=(by rw[←hWn];exact Bk.new _ _ _);rw[hWn];clear hWn;obtain⟨p5,hp5⟩:∃p,Wc.heap.size=p:=⟨_,rfl⟩;rw[hp5]at k⊢;clear hp5;(try(replace H5:Hid (Bk Wn p5 #[.string ⟨#[]⟩,.string ⟨#[38,38]⟩,.string ⟨#[45,45]⟩,.string ⟨#[126,126]⟩] 9):=H5.out.on d));replace HBW:Hid (Below W0.heap.size W0 Wn):=HBW.out.trans (below_less d HBW.out.size);have H5:Hid (Bk Wn p5 #[.string ⟨#[]⟩,.string ⟨#[38,38]⟩,.string ⟨#[45,45]⟩,.string ⟨#[126,126]⟩] 9):=k;clear k;refine hK5.out _ _ (HSd.out _ HBW.out) (fun hHeld=>?_);clear hK5 K d;rename World=>Wc;(try simp only[Act.put,lin.sm]);(refine lin.tH 8 (v:=?_) ?_;(try simp only[Act.put,lin.sm])))
    |(have q:=hK9;clear q;have c9:=H5.out.cell mn HOP.out;have d:Below Wc.heap.size Wc Wc:=Below.refl _ _;go_simp;have H9:Hid (True):=trivial;clear H5 c9;refine hK9.out _ _ (HSd.out _ HBW.out) (fun hHeld=>?_);clear hK9 K d;(try simp only[Act.put,lin.sm]))
  all_goals
   first
    |(have q:=H9;clear q;have q:=H15;clear q;have q:=H4;clear q)
    |(have q:=H9;clear q;have q:=H4;clear q;(refine lin.tH 10 (v:=?_) ?_;(try simp only[Act.put,lin.sm]));have H10:Hid True:=trivial;refine wpAnyH_ready (rs:=[15]) (by kernel_rfl) (by simp) ?_;refine(AllReadyH.cons rfl (fun K hK15=>?_) AllReadyH.nil))
    |(have q:=H15;clear q;have q:=H5;clear q;refine wpAnyH_ready (rs:=[9]) (by kernel_rfl) (by simp) ?_;refine(AllReadyH.cons rfl (fun K hK9=>?_) AllReadyH.nil))
    |(have q:=H15;clear q;refine wpAnyH_ready (rs:=[5]) (by kernel_rfl) (by simp) ?_;refine(AllReadyH.cons rfl (fun K hK5=>?_) AllReadyH.nil))
    |(have q:=H9;clear q;refine wpAnyH_ready (rs:=[4]) (by kernel_rfl) (by simp) ?_;refine(AllReadyH.cons rfl (fun K hK4=>?_) AllReadyH.nil))
    |(have q:=H4;clear q;have q:=H5;clear q;refine wpAnyH_ready (rs:=[9,15]) (by kernel_rfl) (by simp) ?_;refine(AllReadyH.cons rfl (fun K hK9=>?_) (AllReadyH.cons rfl (fun K hK15=>?_) AllReadyH.nil)))
    |(have q:=H4;clear q;refine wpAnyH_ready (rs:=[5,15]) (by kernel_rfl) (by simp) ?_;refine(AllReadyH.cons rfl (fun K hK5=>?_) (AllReadyH.cons rfl (fun K hK15=>?_) AllReadyH.nil)))
    |(have q:=H5;clear q;refine wpAnyH_ready (rs:=[4,9]) (by kernel_rfl) (by simp) ?_;refine(AllReadyH.cons rfl (fun K hK4=>?_) (AllReadyH.cons rfl (fun K hK9=>?_) AllReadyH.nil)))
 all_goals
  first|(have q:=H10;clear q)|(refine lin.tH 10 (v:=?_) ?_;(try simp only[Act.put,lin.sm]))
 all_goals
  (refine lin.tH 16 (v:=?_) ?_;(try simp only[Act.put,lin.sm]))
 all_goals
  (refine lin.tH 17 (v:=?_) ?_;(try simp only[Act.put,lin.sm]))
 all_goals
  refine wpAnyH_done (by kernel_rfl) ?_ _
  refine NoPanic.normal ?_
  rw[HJ.out]
  have HBZ:Hid (Below w.heap.size w Wc):=HB0.out.trans (below_less HBW.out HB0.out.size)
  obtain⟨x0,x1,x2,x3,x4,x5,x6,x7⟩:=at8c (HX0.out.on HBW.out)
  obtain⟨Z,hZ⟩:∃Z,TL++(OP.data.toList++TR)=Z:=⟨_,rfl⟩
  rw[hZ]at HRS HTS⊢
  have t1:¬9223372036854775807<2+(S8 Z).size:=by have:=HTS.out;omega
  have t2:¬9223372036854775807<2+(S8 Z).size+1:=by have:=HTS.out;omega
  have t3:¬9223372036854775807<1+(S8 Z).size:=by have:=HTS.out;omega
  have t4:¬9223372036854775807<1+(S8 Z).size+1:=by have:=HTS.out;omega
  clear hZ HX0 HB0 HSd HCL HCR HBW hHeld HJ
  cases sd with
  |true=>
   go_wp2
   go_ret
   exact⟨rt_str HRS.out,HBZ.out⟩
  |false=>
   cases g with
   |true=>
    go_wp2
    go_ret
    exact⟨rt_str ((s8_wrap [91,94] _).trans HRS.out),HBZ.out⟩
   |false=>
    go_wp2
    go_ret
    exact⟨rt_str ((s8_wrap [91] _).trans HRS.out),HBZ.out⟩
end Go.Proofs.YtbbeciofgnkggaaGreatDoor.tre
namespace Go.Proofs.YtbbeciofgnkggaaGreatDoor.tre
open Go.RowKit nod tok
open rng(R RV ret_int ret_bool info_parts own_below')
theorem flat_max{N:Nat}{ks:List Nd}(hs:shortL ks)(hz:szL ks≤60000):(ks.flatMap (memT (insT N))).length≤9223372036854775000:=by
 have h:=flat_le (F:=memT (insT N)) ks (fun x hx=>mem_le (short_mem hs hx) (ins_le N x (short_mem hs hx)))
 have h2:nodeB*szL ks≤nodeB*60000:=Nat.mul_le_mul_left _ hz
 have hB:nodeB*60000=8444249301320820000:=rfl
 omega
theorem class_t:∀N:Nat,ClsT N
 |0=>by intro t v B w d sd hz;cases t;rw[Nd.sz]at hz;omega
 |N+1=>by
  have ih:=class_t N
  intro t v B w d sd hz hz2 hs hv hB hi
  obtain⟨k,m,a,b,g,n,s,ks,ta,tc,ka,kc,rfl,rfl,_,_,_,hk1,hk2,hk3,hkv⟩:=hv.open
  rw[shortN]at hs
  rw[Nd.sz]at hz hz2
  have hk2':kc≤9223372036854775807:=hk2
  show Calls Tryz.prog 19 _ w fun e w'=>e=.returned (.string (S8 (clsT sd g (insT (N+1) (.mk k m a b g n s ks)))))∧Below w.heap.size w w'
  by_cases h0:m=0
  ·subst h0
   have e:insT (N+1) (.mk k 0 a b g n s ks)=ks.flatMap (memT (insT N)):=rfl
   have hall:∀x,x∈ks→memD (insD N) x d=true:=by
    have h:(!ks.isEmpty&&ks.all (fun k=>memD (insD N) k d))=true:=hi
    rw[Bool.and_eq_true]at h
    exact List.all_eq_true.1 h.2
   rw[e]
   exact ct_union k a b g n ta s.length tc ka ks.length kc ks B w sd (memT (insT N)) rfl (by omega) hk1 hkv hB (flat_max hs.2 (by omega)) (fun t v W hm hv hB=>member_t N ih t v B W d (by have:=szL_mem hm;omega) (by have:=szL_mem hm;omega) (short_mem hs.2 hm) hv hB (hall t hm))
  ·by_cases hm2:1≤m∧m≤3∧ks.length=2
   rotate_left
   ·rw[ins_none N (.mk k m a b g n s ks) d h0 hm2]at hi;cases hi
   ·have hm:m=1∨m=2∨m=3:=by omega
    obtain⟨l,r,rfl⟩:∃l r,ks=[l,r]:=by
     match ks,hm2.2.2 with
     |[l,r],_=>exact⟨l,r,rfl⟩
    have h':(sideB l&&sideB r&&decide (r.mode=0)&&(insD N l d&&insD N r d))=true:=(ins_sides N (.mk k m a b g n s [l,r]) d h0 hm l r rfl).symm.trans hi
    clear hm2
    rw[Bool.and_eq_true,Bool.and_eq_true (insD N l d)]at h'
    have hl:=h'.2.1
    have hr:=h'.2.2
    obtain⟨kb,ko,rfl,hka⟩:=hkv.some (by simp)
    obtain⟨vl,al,nl⟩:=hka.2 0 l rfl
    obtain⟨vr,ar,nr⟩:=hka.2 1 r rfl
    rw[Nat.zero_mul,Nat.add_zero]at al
    rw[Nat.one_mul]at ar
    have el:szL [l,r]=l.sz+r.sz:=by rw[szL,szL,szL];omega
    rw[el]at hz hz2
    have pl:=sz_pos l
    have pr:=sz_pos r
    have sl:shortN l:=short_mem hs.2 (by simp)
    have sr:shortN r:=short_mem hs.2 (by simp)
    have CL:∀W,Below w.heap.size w W→Calls Tryz.prog 19 #[vl,.bool true] W fun e w'=>e=.returned (.string (S8 (insT N l)))∧Below W.heap.size W w':=fun W h=>ih l vl B W d true (by omega) (by omega) sl (nl.keep (below_less h hB)) (Nat.le_trans hB h.size) hl
    have CR:∀W,Below w.heap.size w W→Calls Tryz.prog 19 #[vr,.bool true] W fun e w'=>e=.returned (.string (S8 (insT N r)))∧Below W.heap.size W w':=fun W h=>ih r vr B W d true (by omega) (by omega) sr (nr.keep (below_less h hB)) (Nat.le_trans hB h.size) hr
    have l1:=ins_le N l sl
    have l2:=ins_le N r sr
    have l3:nodeB*(l.sz+r.sz)≤nodeB*60000:=Nat.mul_le_mul_left _ (by omega)
    have l4:nodeB*60000=8444249301320820000:=rfl
    rw[Nat.mul_add]at l3
    have eT:insT (N+1) (.mk k m a b g n s [l,r])=insT N l++((textP m opTexts).data.toList++insT N r):=by
     show(if m=0 then _ else _)=_
     rw[if_neg h0]
     rfl
    rw[eT]
    clear eT hi
    generalize insT N l=TL at*
    generalize insT N r=TR at*
    have hlen:TL.length+TR.length≤9223372036854775000:=by omega
    obtain⟨lk,lm,la,lb,lg,ln,ls,lks,lsa,lsc,lao,lcap,rfl,rfl,_⟩:=nl.open
    obtain⟨rk,rm,ra,rb,rg,rn,rs,rks,rsa,rsc,rao,rcap,rfl,rfl,_⟩:=nr.open
    have hkb:kb<w.heap.size:=Nat.lt_of_lt_of_le hka.1 hB
    rcases hm with rfl|rfl|rfl
    ·exact ct_sides k a b 1 g n ta s.length tc kb ko 2 kc lk lm la lb lg ln lsa lao ls.length lsc lks.length lcap rk rm ra rb rg rn rsa rao rs.length rsc rks.length rcap w sd TL TR ⟨#[38,38]⟩ (by omega) (by omega) rfl hk1 rfl rfl al ar hkb hlen CL CR
    ·exact ct_sides k a b 2 g n ta s.length tc kb ko 2 kc lk lm la lb lg ln lsa lao ls.length lsc lks.length lcap rk rm ra rb rg rn rsa rao rs.length rsc rks.length rcap w sd TL TR ⟨#[45,45]⟩ (by omega) (by omega) rfl hk1 rfl rfl al ar hkb hlen CL CR
    ·exact ct_sides k a b 3 g n ta s.length tc kb ko 2 kc lk lm la lb lg ln lsa lao ls.length lsc lks.length lcap rk rm ra rb rg rn rsa rao rs.length rsc rks.length rcap w sd TL TR ⟨#[126,126]⟩ (by omega) (by omega) rfl hk1 rfl rfl al ar hkb hlen CL CR
end Go.Proofs.YtbbeciofgnkggaaGreatDoor.tre
