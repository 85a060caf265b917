import Derived.Test.YtbbeciofgnkggaaGreatDoorBqTre14
import Derived.Test.YtbbeciofgnkggaaGreatDoorBqNod1
set_option linter.unusedSimpArgs false
set_option linter.unusedVariables false
set_option maxRecDepth 100000
set_option maxHeartbeats 4000000
namespace Go.Proofs.YtbbeciofgnkggaaGreatDoor.tre
open Go.RowKit nod tok
open rng(R RV ret_int ret_bool info_parts own_below')
theorem one_kid'{ks:List Nd}(h:ks.length=1):∃t,ks=[t]:=by
 match ks,h with
 |[t],_=>exact⟨t,rfl⟩
theorem encl_not{D:DP}{ks:List Nd}{c:Ck}{d:Int}(h:¬ks.length=1):enclD D ks c d=none:=by
 match ks with
 |[]=>rfl
 |[t]=>exact absurd rfl h
 |_::_::_=>rfl
theorem encl_deep{D:DP}{ks:List Nd}{c:Ck}{d:Int}(h:¬d+1≤50):enclD D ks c d=none:=by
 match ks with
 |[]=>rfl
 |[t]=>exact if_neg h
 |_::_::_=>rfl
theorem bind_no{α β:Type}{o:Option α}{f:α→Option β}(h:∀x,f x=none):o.bind f=none:=by
 cases o with
 |none=>rfl
 |some x=>exact h x
/--What is under a repetition. -/
def repP(D:DP)(m a b:Int)(c:Ck)(d:Int):List Nd→Option Ck
 |[x]=>if repB x.kind=true∧0≤m∧m≤2∧timesB a b=true then D x c d else none
 |_=>none
theorem rep_len{D:DP}{m a b:Int}{c:Ck}{d:Int}{ks:List Nd}(h:¬ks.length=1):repP D m a b c d ks=none:=by
 match ks with
 |[]=>rfl
 |[t]=>exact absurd rfl h
 |_::_::_=>rfl
theorem rep_not{D:DP}{m a b:Int}{c:Ck}{d:Int}{ks:List Nd}(h:¬(0≤m∧m≤2∧timesB a b=true)):repP D m a b c d ks=none:=by
 match ks with
 |[]=>rfl
 |[t]=>exact if_neg (fun q=>h q.2)
 |_::_::_=>rfl
theorem times_no{a b:Int}(h:a<0∨100<a∨b< -1∨100<b∨(0≤b∧b<a)):¬timesB a b=true:=by
 unfold timesB
 simp only[Bool.and_eq_true,Bool.or_eq_true,decide_eq_true_eq]
 omega
theorem times_yes{a b:Int}(h1:0≤a)(h2:a≤100)(h3:-1≤b)(h4:b≤100)(h5:b<0∨a≤b):timesB a b=true:=by
 unfold timesB
 simp only[Bool.and_eq_true,Bool.or_eq_true,decide_eq_true_eq]
 omega
theorem encl_one{D:DP}{t:Nd}{c:Ck}{d:Int}(h:d+1≤50):enclD D [t] c d=bodyD D t c (d+1):=if_pos h
theorem part_11{base:Nat}{D:DP}(m a b:Int)(g:Bool)(n:ByteArray)(ta:Option Addr)(tl tc:Nat)(ka:Option Addr)(kl kc:Nat)(st:List R)(ks:List Nd)(w:World)(pb:Nat)(c:Ck)(d:Int)(hsl:st.length=tl)(hkl:ks.length=kl)(hkm:kl≤9223372036854775807)(hkc:kl≤kc)(hkv:KV base w ka ks)(hB:base≤w.heap.size)(hC:CkAt base w pb c)(h0:0≤d)(h1:d≤50)
  (HI:Hid (∀(t:Nd)(v:Value)(W:World)(c:Ck)(d':Int),t∈ks→d'=d+1→d'≤50→NV base W t v→base≤W.heap.size→CkAt base W pb c→Calls Tryz.prog 15 #[.pointer (some ⟨pb,0,none⟩),v,.int .i64 d'] W fun e w'=>e=.returned (.bool (bodyD D t c d').isSome)∧Below base W w'∧Nx base pb (bodyD D t c d') w')):
  Calls Tryz.prog 29 #[.pointer (some ⟨pb,0,none⟩),.agg (n8 11 m a b g n ta tl tc ka kl kc),.int .i64 d] w fun e w'=>e=.returned (.bool (if othersZ (.mk 11 m a b g n st ks)=true then enclD D ks c d else none).isSome)∧Below base w w'∧Nx base pb (if othersZ (.mk 11 m a b g n st ks)=true then enclD D ks c d else none) w':=by
 obtain⟨W0,hW0,HW0,b0,HX0⟩:=st0 w (n8 11 m a b g n ta tl tc ka kl kc) 25
 have HB0:Hid (Below base w W0):=below_less b0 hB
 have HBw:Hid (Below w.heap.size w W0):=b0
 have HC0:Hid (CkAt base W0 pb c):=hC.on b0
 have HBS:Hid (base≤w.heap.size):=hB
 clear hW0 b0 hC
 have HL:Hid (ks.length=kl):=hkl
 have HK:Hid (KV base w ka ks):=hkv
 have CB:=bare_any 11 m a b g n ta tl tc ka kl kc 0 0 0 0 false ⟨#[]⟩ none 0 0 ka kl kc W0
 have ho:=oz_11 m a b g n st ks
 rw[hsl,hkl]at ho
 rw[ho]at CB
 obtain⟨P,hP⟩:∃P,(if othersZ (.mk 11 m a b g n st ks)=true then enclD D ks c d else none)=P:=⟨_,rfl⟩
 obtain⟨R,hR⟩:∃R,othersZ (.mk 11 m a b g n st ks)=R:=⟨_,rfl⟩
 rw[hP]
 rw[hR]at hP CB
 have HS:Hid ((if R=true then enclD D ks c d else none)=P):=hP
 clear hP ho hR hkl hsl hkv
 go_enter Tryz.func29,Tryz.ntmps29
 go_upto_region 1 with fail
 rw[HW0.out]
 clear HW0
 have x0:=HX0.out.cell 0 (u:=.int .i64 11) rfl
 obtain⟨-,x1,x2,x3,x4,x5,x6,x7⟩:=at8c HX0.out
 go_wp2_with fail
 refine CB.mono ?_
 rintro e w1⟨rfl,b1⟩
 have HC1:Hid (CkAt base w1 pb c):=HC0.out.on b1
 have HB1:Hid (Below base w w1):=HB0.out.trans (below_less b1 (Nat.le_trans HBS.out HB0.out.size))
 have HX1:Hid (Bk w1 w.heap.size (n8 11 m a b g n ta tl tc ka kl kc) 25):=HX0.out.on b1
 obtain⟨z0,z1,z2,z3,z4,z5,z6,z7⟩:=at8c (HX0.out.on b1)
 clear CB b1 x0 x1 x2 x3 x4 x5 x6 x7 HX0 HB0 HBw HC0
 cases R with
 |false=>
  have HE:Hid (P=none):=HS.out.symm
  clear HS
  go_wp2
  go_ret
  exact⟨rt_bool (by rw[HE.out];rfl),HB1.out,nx_none HE.out⟩
 |true=>
  replace HS:Hid ((enclD D ks c d)=P):=HS.out
  by_cases h2:kl=1
  rotate_left
  ·have hk1:((kl:Int)==1)=false:=by simp;omega
   have HE:Hid (P=none):=HS.out.symm.trans (by first|exact encl_not (by have:=HL.out;omega)|(rw[encl_not (by have:=HL.out;omega)];simp))
   clear HS
   go_wp2
   go_ret
   exact⟨rt_bool (by rw[HE.out];rfl),HB1.out,nx_none HE.out⟩
  subst h2
  obtain⟨x,rfl⟩:=one_kid' HL.out
  by_cases h3:d<50
  rotate_left
  ·have HE:Hid (P=none):=HS.out.symm.trans (by first|exact encl_deep (by omega)|(rw[encl_deep (by omega)];simp))
   clear HS
   go_wp2
   go_ret
   exact⟨rt_bool (by rw[HE.out];rfl),HB1.out,nx_none HE.out⟩
  have HE:Hid (bodyD D x c (d+1)=P):=(encl_one (by omega)).symm.trans HS.out
  obtain⟨bb,off,rfl,hka⟩:=(HK.out.below HB1.out).some (by simp)
  obtain⟨k',m',a',b',g',n',s',kk,sa',sc',ao',cap',rfl,hcells,hv'⟩:=hka.kid (i:=0) (t:=x) rfl
  simp only[Nat.zero_mul,Nat.add_zero]at hcells
  obtain⟨e0,e1,e2,e3,e4,e5,e6,e7⟩:=hcells
  have C:=HI.out (.mk k' m' a' b' g' n' s' kk) _ w1 c (d+1) (List.mem_cons_self ..) rfl (by omega) hv' (Nat.le_trans HBS.out HB1.out.size) HC1.out
  generalize s'.length=sl' at*
  generalize kk.length=nk' at*
  obtain⟨Q,hQ⟩:∃Q,(bodyD D) (.mk k' m' a' b' g' n' s' kk) c (d+1)=Q:=⟨_,rfl⟩
  rw[hQ]at C
  replace HE:Hid (Q=P):=hQ.symm.trans HE.out
  replace HE:Hid (P=Q):=HE.out.symm
  clear hQ hv' hka HK HI HS
  go_wp2_with fail
  refine C.mono ?_
  rintro e w2⟨rfl,dd,nn⟩
  have HN:Hid (Nx base pb Q w2):=nn
  have HB2:Hid (Below base w w2):=HB1.out.trans dd
  clear C dd nn
  go_wp2
  go_ret
  exact⟨rt_bool (by rw[HE.out]),HB2.out,(by rw[HE.out];exact HN.out)⟩
theorem part_10{base:Nat}{D:DP}(m a b:Int)(g:Bool)(n:ByteArray)(ta:Option Addr)(tl tc:Nat)(ka:Option Addr)(kl kc:Nat)(st:List R)(ks:List Nd)(w:World)(pb:Nat)(c:Ck)(d:Int)(hsl:st.length=tl)(hkl:ks.length=kl)(hkm:kl≤9223372036854775807)(hkc:kl≤kc)(hkv:KV base w ka ks)(hB:base≤w.heap.size)(hC:CkAt base w pb c)(h0:0≤d)(h1:d≤50)
  (HI:Hid (∀(t:Nd)(v:Value)(W:World)(c:Ck)(d':Int),t∈ks→d'=d+1→d'≤50→NV base W t v→base≤W.heap.size→CkAt base W pb c→Calls Tryz.prog 15 #[.pointer (some ⟨pb,0,none⟩),v,.int .i64 d'] W fun e w'=>e=.returned (.bool (bodyD D t c d').isSome)∧Below base W w'∧Nx base pb (bodyD D t c d') w')):
  Calls Tryz.prog 29 #[.pointer (some ⟨pb,0,none⟩),.agg (n8 10 m a b g n ta tl tc ka kl kc),.int .i64 d] w fun e w'=>e=.returned (.bool (if othersZ (.mk 10 m a b g n st ks)=true then(if 0≤m∧m≤3 then enclD D ks c d else none)else none).isSome)∧Below base w w'∧Nx base pb (if othersZ (.mk 10 m a b g n st ks)=true then(if 0≤m∧m≤3 then enclD D ks c d else none)else none) w':=by
 obtain⟨W0,hW0,HW0,b0,HX0⟩:=st0 w (n8 10 m a b g n ta tl tc ka kl kc) 25
 have HB0:Hid (Below base w W0):=below_less b0 hB
 have HBw:Hid (Below w.heap.size w W0):=b0
 have HC0:Hid (CkAt base W0 pb c):=hC.on b0
 have HBS:Hid (base≤w.heap.size):=hB
 clear hW0 b0 hC
 have HL:Hid (ks.length=kl):=hkl
 have HK:Hid (KV base w ka ks):=hkv
 have CB:=bare_any 10 m a b g n ta tl tc ka kl kc 0 m 0 0 false ⟨#[]⟩ none 0 0 ka kl kc W0
 have ho:=oz_10 m a b g n st ks
 rw[hsl,hkl]at ho
 rw[ho]at CB
 obtain⟨P,hP⟩:∃P,(if othersZ (.mk 10 m a b g n st ks)=true then(if 0≤m∧m≤3 then enclD D ks c d else none)else none)=P:=⟨_,rfl⟩
 obtain⟨R,hR⟩:∃R,othersZ (.mk 10 m a b g n st ks)=R:=⟨_,rfl⟩
 rw[hP]
 rw[hR]at hP CB
 have HS:Hid ((if R=true then(if 0≤m∧m≤3 then enclD D ks c d else none)else none)=P):=hP
 clear hP ho hR hkl hsl hkv
 go_enter Tryz.func29,Tryz.ntmps29
 go_upto_region 1 with fail
 rw[HW0.out]
 clear HW0
 have x0:=HX0.out.cell 0 (u:=.int .i64 10) rfl
 obtain⟨-,x1,x2,x3,x4,x5,x6,x7⟩:=at8c HX0.out
 go_wp2_with fail
 refine CB.mono ?_
 rintro e w1⟨rfl,b1⟩
 have HC1:Hid (CkAt base w1 pb c):=HC0.out.on b1
 have HB1:Hid (Below base w w1):=HB0.out.trans (below_less b1 (Nat.le_trans HBS.out HB0.out.size))
 have HX1:Hid (Bk w1 w.heap.size (n8 10 m a b g n ta tl tc ka kl kc) 25):=HX0.out.on b1
 obtain⟨z0,z1,z2,z3,z4,z5,z6,z7⟩:=at8c (HX0.out.on b1)
 clear CB b1 x0 x1 x2 x3 x4 x5 x6 x7 HX0 HB0 HBw HC0
 cases R with
 |false=>
  have HE:Hid (P=none):=HS.out.symm
  clear HS
  go_wp2
  go_ret
  exact⟨rt_bool (by rw[HE.out];rfl),HB1.out,nx_none HE.out⟩
 |true=>
  replace HS:Hid (((if 0≤m∧m≤3 then enclD D ks c d else none))=P):=HS.out
  by_cases h2:kl=1
  rotate_left
  ·have hk1:((kl:Int)==1)=false:=by simp;omega
   have HE:Hid (P=none):=HS.out.symm.trans (by first|exact encl_not (by have:=HL.out;omega)|(rw[encl_not (by have:=HL.out;omega)];simp))
   clear HS
   go_wp2
   go_ret
   exact⟨rt_bool (by rw[HE.out];rfl),HB1.out,nx_none HE.out⟩
  subst h2
  obtain⟨x,rfl⟩:=one_kid' HL.out
  by_cases h3:d<50
  rotate_left
  ·have HE:Hid (P=none):=HS.out.symm.trans (by first|exact encl_deep (by omega)|(rw[encl_deep (by omega)];simp))
   clear HS
   go_wp2
   go_ret
   exact⟨rt_bool (by rw[HE.out];rfl),HB1.out,nx_none HE.out⟩
  by_cases h4:0≤m
  rotate_left
  ·have h5:m<0:=by omega
   have HE:Hid (P=none):=HS.out.symm.trans (if_neg (fun q=>h4 q.1))
   clear HS
   go_wp2
   go_ret
   exact⟨rt_bool (by rw[HE.out];rfl),HB1.out,nx_none HE.out⟩
  by_cases h6:m≤3
  rotate_left
  ·have h5:3<m:=by omega
   have HE:Hid (P=none):=HS.out.symm.trans (if_neg (fun q=>h6 q.2))
   clear HS
   go_wp2
   go_ret
   exact⟨rt_bool (by rw[HE.out];rfl),HB1.out,nx_none HE.out⟩
  have HE:Hid (bodyD D x c (d+1)=P):=(encl_one (by omega)).symm.trans ((if_pos ⟨h4,h6⟩).symm.trans HS.out)
  obtain⟨bb,off,rfl,hka⟩:=(HK.out.below HB1.out).some (by simp)
  obtain⟨k',m',a',b',g',n',s',kk,sa',sc',ao',cap',rfl,hcells,hv'⟩:=hka.kid (i:=0) (t:=x) rfl
  simp only[Nat.zero_mul,Nat.add_zero]at hcells
  obtain⟨e0,e1,e2,e3,e4,e5,e6,e7⟩:=hcells
  have C:=HI.out (.mk k' m' a' b' g' n' s' kk) _ w1 c (d+1) (List.mem_cons_self ..) rfl (by omega) hv' (Nat.le_trans HBS.out HB1.out.size) HC1.out
  generalize s'.length=sl' at*
  generalize kk.length=nk' at*
  obtain⟨Q,hQ⟩:∃Q,(bodyD D) (.mk k' m' a' b' g' n' s' kk) c (d+1)=Q:=⟨_,rfl⟩
  rw[hQ]at C
  replace HE:Hid (Q=P):=hQ.symm.trans HE.out
  replace HE:Hid (P=Q):=HE.out.symm
  clear hQ hv' hka HK HI HS
  go_wp2_with fail
  refine C.mono ?_
  rintro e w2⟨rfl,dd,nn⟩
  have HN:Hid (Nx base pb Q w2):=nn
  have HB2:Hid (Below base w w2):=HB1.out.trans dd
  clear C dd nn
  go_wp2
  go_ret
  exact⟨rt_bool (by rw[HE.out]),HB2.out,(by rw[HE.out];exact HN.out)⟩
theorem part_9{base:Nat}{D:DP}(m a b:Int)(g:Bool)(n:ByteArray)(ta:Option Addr)(tl tc:Nat)(ka:Option Addr)(kl kc:Nat)(st:List R)(ks:List Nd)(w:World)(pb:Nat)(c:Ck)(d:Int)(hsl:st.length=tl)(hkl:ks.length=kl)(hkm:kl≤9223372036854775807)(hkc:kl≤kc)(hkv:KV base w ka ks)(hB:base≤w.heap.size)(hC:CkAt base w pb c)(h0:0≤d)(h1:d≤50)(hn:n.size≤140737488355327)
  (HI:Hid (∀(t:Nd)(v:Value)(W:World)(c:Ck)(d':Int),t∈ks→d'=d+1→d'≤50→NV base W t v→base≤W.heap.size→CkAt base W pb c→Calls Tryz.prog 15 #[.pointer (some ⟨pb,0,none⟩),v,.int .i64 d'] W fun e w'=>e=.returned (.bool (bodyD D t c d').isSome)∧Below base W w'∧Nx base pb (bodyD D t c d') w')):
  Calls Tryz.prog 29 #[.pointer (some ⟨pb,0,none⟩),.agg (n8 9 m a b g n ta tl tc ka kl kc),.int .i64 d] w fun e w'=>e=.returned (.bool (if othersZ (.mk 9 m a b g n st ks)=true then((grpD (.mk 9 m a b g n st ks) c).bind fun c'=>enclD D ks c' d)else none).isSome)∧Below base w w'∧Nx base pb (if othersZ (.mk 9 m a b g n st ks)=true then((grpD (.mk 9 m a b g n st ks) c).bind fun c'=>enclD D ks c' d)else none) w':=by
 obtain⟨W0,hW0,HW0,b0,HX0⟩:=st0 w (n8 9 m a b g n ta tl tc ka kl kc) 25
 have HB0:Hid (Below base w W0):=below_less b0 hB
 have HBw:Hid (Below w.heap.size w W0):=b0
 have HC0:Hid (CkAt base W0 pb c):=hC.on b0
 have HBS:Hid (base≤w.heap.size):=hB
 clear hW0 b0 hC
 have HL:Hid (ks.length=kl):=hkl
 have HNN:Hid (n.size≤140737488355327):=hn
 clear hn
 have HK:Hid (KV base w ka ks):=hkv
 have CB:=bare_any 9 m a b g n ta tl tc ka kl kc 0 0 a 0 false n none 0 0 ka kl kc W0
 have ho:=oz_9 m a b g n st ks
 rw[hsl,hkl]at ho
 rw[ho]at CB
 obtain⟨P,hP⟩:∃P,(if othersZ (.mk 9 m a b g n st ks)=true then((grpD (.mk 9 m a b g n st ks) c).bind fun c'=>enclD D ks c' d)else none)=P:=⟨_,rfl⟩
 obtain⟨R,hR⟩:∃R,othersZ (.mk 9 m a b g n st ks)=R:=⟨_,rfl⟩
 rw[hP]
 rw[hR]at hP CB
 have HS:Hid ((if R=true then((grpD (.mk 9 m a b g n st ks) c).bind fun c'=>enclD D ks c' d)else none)=P):=hP
 clear hP ho hR hkl hsl hkv
 go_enter Tryz.func29,Tryz.ntmps29
 go_upto_region 1 with fail
 rw[HW0.out]
 clear HW0
 have x0:=HX0.out.cell 0 (u:=.int .i64 9) rfl
 obtain⟨-,x1,x2,x3,x4,x5,x6,x7⟩:=at8c HX0.out
 go_wp2_with fail
 refine CB.mono ?_
 rintro e w1⟨rfl,b1⟩
 have HC1:Hid (CkAt base w1 pb c):=HC0.out.on b1
 have HB1:Hid (Below base w w1):=HB0.out.trans (below_less b1 (Nat.le_trans HBS.out HB0.out.size))
 have HX1:Hid (Bk w1 w.heap.size (n8 9 m a b g n ta tl tc ka kl kc) 25):=HX0.out.on b1
 obtain⟨z0,z1,z2,z3,z4,z5,z6,z7⟩:=at8c (HX0.out.on b1)
 clear CB b1 x0 x1 x2 x3 x4 x5 x6 x7 HX0 HB0 HBw HC0
 cases R with
 |false=>
  have HE:Hid (P=none):=HS.out.symm
  clear HS
  go_wp2
  go_ret
  exact⟨rt_bool (by rw[HE.out];rfl),HB1.out,nx_none HE.out⟩
 |true=>
  replace HS:Hid (((grpD (.mk 9 m a b g n st ks) c).bind fun c'=>enclD D ks c' d)=P):=HS.out
  by_cases h2:kl=1
  rotate_left
  ·have hk1:((kl:Int)==1)=false:=by simp;omega
   have HE:Hid (P=none):=HS.out.symm.trans (bind_no (fun c'=>encl_not (by have:=HL.out;omega)))
   clear HS
   go_wp2
   go_ret
   exact⟨rt_bool (by rw[HE.out];rfl),HB1.out,nx_none HE.out⟩
  subst h2
  obtain⟨x,rfl⟩:=one_kid' HL.out
  by_cases h3:d<50
  rotate_left
  ·have HE:Hid (P=none):=HS.out.symm.trans (bind_no (fun c'=>encl_deep (by omega)))
   clear HS
   go_wp2
   go_ret
   exact⟨rt_bool (by rw[HE.out];rfl),HB1.out,nx_none HE.out⟩
  have HS2:Hid (((grpD (.mk 9 m a b g n st [x]) c).bind fun c'=>bodyD D x c' (d+1))=P):=by
   have h:=HS.out
   rw[show(fun c'=>enclD D [x] c' d)=fun c'=>bodyD D x c' (d+1)from funext fun c'=>encl_one (by omega)]at h
   exact h
  have CG:=group_d HC1.out 9 m a b g n ta tl tc ka 1 kc st [x] w.heap.size _ HX1.out (Nat.le_trans HBS.out HB1.out.size) HNN.out
  obtain⟨G,hG⟩:∃G,grpD (.mk 9 m a b g n st [x]) c=G:=⟨_,rfl⟩
  rw[hG]at CG
  replace HS2:Hid ((G.bind fun c'=>bodyD D x c' (d+1))=P):=by have h:=HS2.out;rw[hG]at h;exact h
  clear hG HS
  cases G with
  |none=>
   have HE:Hid (P=none):=HS2.out.symm
   clear HS2
   go_wp2_with fail
   refine CG.mono ?_
   rintro e w3⟨rfl,dd,_⟩
   have HB3:Hid (Below base w w3):=HB1.out.trans dd
   clear CG dd
   go_wp2
   go_ret
   exact⟨rt_bool (by rw[HE.out];rfl),HB3.out,nx_none HE.out⟩
  |some cg=>
   have HE:Hid (bodyD D x cg (d+1)=P):=HS2.out
   clear HS2
   go_wp2_with fail
   refine CG.mono ?_
   rintro e w3⟨rfl,dd,nn⟩
   have HB3:Hid (Below base w w3):=HB1.out.trans dd
   have HC3:Hid (CkAt base w3 pb cg):=nn.1 cg rfl
   have HX3:Hid (Bk w3 w.heap.size (n8 9 m a b g n ta tl tc ka 1 kc) 25):=nn.2 (fun e=>by cases e)
   clear CG dd nn z0 z1 z2 z3 z4 z5 z6 z7 HX1
   obtain⟨z0,z1,z2,z3,z4,z5,z6,z7⟩:=at8c HX3.out
   obtain⟨bb,off,rfl,hka⟩:=(HK.out.below HB3.out).some (by simp)
   obtain⟨k',m',a',b',g',n',s',kk,sa',sc',ao',cap',rfl,hcells,hv'⟩:=hka.kid (i:=0) (t:=x) rfl
   simp only[Nat.zero_mul,Nat.add_zero]at hcells
   obtain⟨e0,e1,e2,e3,e4,e5,e6,e7⟩:=hcells
   have C:=HI.out (.mk k' m' a' b' g' n' s' kk) _ w3 cg (d+1) (List.mem_cons_self ..) rfl (by omega) hv' (Nat.le_trans HBS.out HB3.out.size) HC3.out
   generalize s'.length=sl' at*
   generalize kk.length=nk' at*
   obtain⟨Q,hQ⟩:∃Q,(bodyD D) (.mk k' m' a' b' g' n' s' kk) cg (d+1)=Q:=⟨_,rfl⟩
   rw[hQ]at C
   replace HE:Hid (Q=P):=hQ.symm.trans HE.out
   replace HE:Hid (P=Q):=HE.out.symm
   clear hQ hv' hka HK HI
   go_wp2_with fail
   refine C.mono ?_
   rintro e w2⟨rfl,dd,nn⟩
   have HN:Hid (Nx base pb Q w2):=nn
   have HB2:Hid (Below base w w2):=HB3.out.trans dd
   clear C dd nn
   go_wp2
   go_ret
   exact⟨rt_bool (by rw[HE.out]),HB2.out,(by rw[HE.out];exact HN.out)⟩
theorem part_8{base:Nat}{D:DP}(m a b:Int)(g:Bool)(n:ByteArray)(ta:Option Addr)(tl tc:Nat)(ka:Option Addr)(kl kc:Nat)(st:List R)(ks:List Nd)(w:World)(pb:Nat)(c:Ck)(d:Int)(hsl:st.length=tl)(hkl:ks.length=kl)(hkm:kl≤9223372036854775807)(hkc:kl≤kc)(hkv:KV base w ka ks)(hB:base≤w.heap.size)(hC:CkAt base w pb c)(h0:0≤d)(h1:d≤50)
  (HI:Hid (∀(t:Nd)(v:Value)(W:World)(c:Ck)(d':Int),t∈ks→d'=d→d'≤50→NV base W t v→base≤W.heap.size→CkAt base W pb c→Calls Tryz.prog 29 #[.pointer (some ⟨pb,0,none⟩),v,.int .i64 d'] W fun e w'=>e=.returned (.bool (D t c d').isSome)∧Below base W w'∧Nx base pb (D t c d') w')):
  Calls Tryz.prog 29 #[.pointer (some ⟨pb,0,none⟩),.agg (n8 8 m a b g n ta tl tc ka kl kc),.int .i64 d] w fun e w'=>e=.returned (.bool (if othersZ (.mk 8 m a b g n st ks)=true then repP D m a b c d ks else none).isSome)∧Below base w w'∧Nx base pb (if othersZ (.mk 8 m a b g n st ks)=true then repP D m a b c d ks else none) w':=by
 obtain⟨W0,hW0,HW0,b0,HX0⟩:=st0 w (n8 8 m a b g n ta tl tc ka kl kc) 25
 have HB0:Hid (Below base w W0):=below_less b0 hB
 have HBw:Hid (Below w.heap.size w W0):=b0
 have HC0:Hid (CkAt base W0 pb c):=hC.on b0
 have HBS:Hid (base≤w.heap.size):=hB
 clear hW0 b0 hC
 have HL:Hid (ks.length=kl):=hkl
 have HK:Hid (KV base w ka ks):=hkv
 have CB:=bare_any 8 m a b g n ta tl tc ka kl kc 0 m a b false ⟨#[]⟩ none 0 0 ka kl kc W0
 have ho:=oz_8 m a b g n st ks
 rw[hsl,hkl]at ho
 rw[ho]at CB
 obtain⟨P,hP⟩:∃P,(if othersZ (.mk 8 m a b g n st ks)=true then repP D m a b c d ks else none)=P:=⟨_,rfl⟩
 obtain⟨R,hR⟩:∃R,othersZ (.mk 8 m a b g n st ks)=R:=⟨_,rfl⟩
 rw[hP]
 rw[hR]at hP CB
 have HS:Hid ((if R=true then repP D m a b c d ks else none)=P):=hP
 clear hP ho hR hkl hsl hkv
 go_enter Tryz.func29,Tryz.ntmps29
 go_upto_region 1 with fail
 rw[HW0.out]
 clear HW0
 have x0:=HX0.out.cell 0 (u:=.int .i64 8) rfl
 obtain⟨-,x1,x2,x3,x4,x5,x6,x7⟩:=at8c HX0.out
 go_wp2_with fail
 refine CB.mono ?_
 rintro e w1⟨rfl,b1⟩
 have HC1:Hid (CkAt base w1 pb c):=HC0.out.on b1
 have HB1:Hid (Below base w w1):=HB0.out.trans (below_less b1 (Nat.le_trans HBS.out HB0.out.size))
 have HX1:Hid (Bk w1 w.heap.size (n8 8 m a b g n ta tl tc ka kl kc) 25):=HX0.out.on b1
 obtain⟨z0,z1,z2,z3,z4,z5,z6,z7⟩:=at8c (HX0.out.on b1)
 clear CB b1 x0 x1 x2 x3 x4 x5 x6 x7 HX0 HB0 HBw HC0
 cases R with
 |false=>
  have HE:Hid (P=none):=HS.out.symm
  clear HS
  go_wp2
  go_ret
  exact⟨rt_bool (by rw[HE.out];rfl),HB1.out,nx_none HE.out⟩
 |true=>
  replace HS:Hid (repP D m a b c d ks=P):=HS.out
  by_cases h2:kl=1
  rotate_left
  ·have hk1:((kl:Int)==1)=false:=by simp;omega
   have hk2:((kl:Int)!=1)=true:=by simp;omega
   have HE:Hid (P=none):=HS.out.symm.trans (rep_len (by have:=HL.out;omega))
   clear HS
   go_wp2
   go_ret
   exact⟨rt_bool (by rw[HE.out];rfl),HB1.out,nx_none HE.out⟩
  subst h2
  obtain⟨x,rfl⟩:=one_kid' HL.out
  by_cases h4:0≤m
  rotate_left
  ·have h5:m<0:=by omega
   have HE:Hid (P=none):=HS.out.symm.trans (rep_not (fun q=>h4 q.1))
   clear HS
   go_wp2
   go_ret
   exact⟨rt_bool (by rw[HE.out];rfl),HB1.out,nx_none HE.out⟩
  by_cases h6:m≤2
  rotate_left
  ·have h5:2<m:=by omega
   have HE:Hid (P=none):=HS.out.symm.trans (rep_not (fun q=>h6 q.2.1))
   clear HS
   go_wp2
   go_ret
   exact⟨rt_bool (by rw[HE.out];rfl),HB1.out,nx_none HE.out⟩
  have h5:¬m<0:=by omega
  have h7:¬2<m:=by omega
  by_cases g0:a<0
  ·have HE:Hid (P=none):=HS.out.symm.trans (rep_not (fun q=>times_no (by omega) q.2.2))
   clear HS
   go_wp2
   go_ret
   exact⟨rt_bool (by rw[HE.out];rfl),HB1.out,nx_none HE.out⟩
  have f0:0≤a:=by omega
  by_cases g1:100<a
  ·have HE:Hid (P=none):=HS.out.symm.trans (rep_not (fun q=>times_no (by omega) q.2.2))
   clear HS
   go_wp2
   go_ret
   exact⟨rt_bool (by rw[HE.out];rfl),HB1.out,nx_none HE.out⟩
  have f1:a≤100:=by omega
  by_cases g2:b< -1
  ·have HE:Hid (P=none):=HS.out.symm.trans (rep_not (fun q=>times_no (by omega) q.2.2))
   clear HS
   go_wp2
   go_ret
   exact⟨rt_bool (by rw[HE.out];rfl),HB1.out,nx_none HE.out⟩
  have f2:-1≤b:=by omega
  by_cases g3:100<b
  ·have HE:Hid (P=none):=HS.out.symm.trans (rep_not (fun q=>times_no (by omega) q.2.2))
   clear HS
   go_wp2
   go_ret
   exact⟨rt_bool (by rw[HE.out];rfl),HB1.out,nx_none HE.out⟩
  have f3:b≤100:=by omega
  by_cases g4:0≤b
  ·by_cases g5:b<a
   ·have HE:Hid (P=none):=HS.out.symm.trans (rep_not (fun q=>times_no (by omega) q.2.2))
    clear HS
    go_wp2
    go_ret
    exact⟨rt_bool (by rw[HE.out];rfl),HB1.out,nx_none HE.out⟩
   ·have HT:Hid (timesB a b=true):=times_yes (by omega) (by omega) (by omega) (by omega) (by omega)
    have HM:Hid (0≤m∧m≤2):=⟨h4,h6⟩
    obtain⟨bb,off,rfl,hka⟩:=(HK.out.below HB1.out).some (by simp)
    obtain⟨k',m',a',b',g',n',s',kk,sa',sc',ao',cap',rfl,hcells,hv'⟩:=hka.kid (i:=0) (t:=x) rfl
    simp only[Nat.zero_mul,Nat.add_zero]at hcells
    obtain⟨e0,e1,e2,e3,e4,e5,e6,e7⟩:=hcells
    have CR:=repeats_d k' w1
    obtain⟨Rk,hRk⟩:∃Rk,repD k'=Rk:=⟨_,rfl⟩
    have HRB:Hid (repB k'=Rk):=hRk
    rw[hRk]at CR
    clear hRk
    cases Rk with
    |false=>
     have HE:Hid (P=none):=HS.out.symm.trans (if_neg (fun q=>by have h:=q.1;rw[show repB (Nd.mk k' m' a' b' g' n' s' kk).kind=false from HRB.out]at h;cases h))
     clear HS hv'
     generalize s'.length=sl' at*
     generalize kk.length=nk' at*
     go_wp2_with fail
     refine CR.mono ?_
     rintro e w3⟨rfl,hw⟩
     rw[hw]
     clear CR hw
     go_wp2
     go_ret
     exact⟨rt_bool (by rw[HE.out];rfl),HB1.out,nx_none HE.out⟩
    |true=>
     have HE:Hid (D (.mk k' m' a' b' g' n' s' kk) c d=P):=(if_pos ⟨HRB.out,HM.out.1,HM.out.2,HT.out⟩).symm.trans HS.out
     have C:=HI.out (.mk k' m' a' b' g' n' s' kk) _ w1 c d (List.mem_cons_self ..) rfl (by omega) hv' (Nat.le_trans HBS.out HB1.out.size) HC1.out
     generalize s'.length=sl' at*
     generalize kk.length=nk' at*
     obtain⟨Q,hQ⟩:∃Q,(D) (.mk k' m' a' b' g' n' s' kk) c d=Q:=⟨_,rfl⟩
     rw[hQ]at C
     replace HE:Hid (Q=P):=hQ.symm.trans HE.out
     replace HE:Hid (P=Q):=HE.out.symm
     clear hQ hv' hka HK HI HS
     go_wp2_with fail
     refine CR.mono ?_
     rintro e w3⟨rfl,hw⟩
     rw[hw]
     clear CR hw
     go_wp2_with fail
     refine C.mono ?_
     rintro e w2⟨rfl,dd,nn⟩
     have HN:Hid (Nx base pb Q w2):=nn
     have HB2:Hid (Below base w w2):=HB1.out.trans dd
     clear C dd nn
     go_wp2
     go_ret
     exact⟨rt_bool (by rw[HE.out]),HB2.out,(by rw[HE.out];exact HN.out)⟩
  ·have HT:Hid (timesB a b=true):=times_yes (by omega) (by omega) (by omega) (by omega) (by omega)
   have HM:Hid (0≤m∧m≤2):=⟨h4,h6⟩
   obtain⟨bb,off,rfl,hka⟩:=(HK.out.below HB1.out).some (by simp)
   obtain⟨k',m',a',b',g',n',s',kk,sa',sc',ao',cap',rfl,hcells,hv'⟩:=hka.kid (i:=0) (t:=x) rfl
   simp only[Nat.zero_mul,Nat.add_zero]at hcells
   obtain⟨e0,e1,e2,e3,e4,e5,e6,e7⟩:=hcells
   have CR:=repeats_d k' w1
   obtain⟨Rk,hRk⟩:∃Rk,repD k'=Rk:=⟨_,rfl⟩
   have HRB:Hid (repB k'=Rk):=hRk
   rw[hRk]at CR
   clear hRk
   cases Rk with
   |false=>
    have HE:Hid (P=none):=HS.out.symm.trans (if_neg (fun q=>by have h:=q.1;rw[show repB (Nd.mk k' m' a' b' g' n' s' kk).kind=false from HRB.out]at h;cases h))
    clear HS hv'
    generalize s'.length=sl' at*
    generalize kk.length=nk' at*
    go_wp2_with fail
    refine CR.mono ?_
    rintro e w3⟨rfl,hw⟩
    rw[hw]
    clear CR hw
    go_wp2
    go_ret
    exact⟨rt_bool (by rw[HE.out];rfl),HB1.out,nx_none HE.out⟩
   |true=>
    have HE:Hid (D (.mk k' m' a' b' g' n' s' kk) c d=P):=(if_pos ⟨HRB.out,HM.out.1,HM.out.2,HT.out⟩).symm.trans HS.out
    have C:=HI.out (.mk k' m' a' b' g' n' s' kk) _ w1 c d (List.mem_cons_self ..) rfl (by omega) hv' (Nat.le_trans HBS.out HB1.out.size) HC1.out
    generalize s'.length=sl' at*
    generalize kk.length=nk' at*
    obtain⟨Q,hQ⟩:∃Q,(D) (.mk k' m' a' b' g' n' s' kk) c d=Q:=⟨_,rfl⟩
    rw[hQ]at C
    replace HE:Hid (Q=P):=hQ.symm.trans HE.out
    replace HE:Hid (P=Q):=HE.out.symm
    clear hQ hv' hka HK HI HS
    go_wp2_with fail
    refine CR.mono ?_
    rintro e w3⟨rfl,hw⟩
    rw[hw]
    clear CR hw
    go_wp2_with fail
    refine C.mono ?_
    rintro e w2⟨rfl,dd,nn⟩
    have HN:Hid (Nx base pb Q w2):=nn
    have HB2:Hid (Below base w w2):=HB1.out.trans dd
    clear C dd nn
    go_wp2
    go_ret
    exact⟨rt_bool (by rw[HE.out]),HB2.out,(by rw[HE.out];exact HN.out)⟩
end Go.Proofs.YtbbeciofgnkggaaGreatDoor.tre
section
namespace Go.Proofs.YtbbeciofgnkggaaGreatDoor.tre
open Go.RowKit nod tok
open rng(R RV ret_int ret_bool info_parts own_below')
theorem szL_nil{ks:List Nd}(h:szL ks≤0):ks=[]:=by
 cases ks with
 |nil=>rfl
 |cons x xs=>cases x;rw[szL,Nd.sz]at h;omega
theorem ins_fuel:∀(N:Nat)(t:Nd)(d:Int),t.sz≤N+1→insD N t d=insD (N+1) t d
 |0,.mk k m a b g n s ks,d,h=>by
  rw[Nd.sz]at h
  obtain rfl:=szL_nil (ks:=ks) (by omega)
  show false=(if m=0 then _ else if m=1∨m=2∨m=3 then _ else false)
  by_cases h1:m=0
  ·rw[if_pos h1];rfl
  ·rw[if_neg h1]
   by_cases h2:m=1∨m=2∨m=3
   ·rw[if_pos h2];rfl
   ·rw[if_neg h2]
 |N+1,.mk k m a b g n s ks,d,h=>by
  rw[Nd.sz]at h
  have each:∀x,x∈ks→∀d,insD N x d=insD (N+1) x d:=fun x hx d=>ins_fuel N x d (by have:=szL_mem hx;omega)
  show(if m=0 then !ks.isEmpty&&ks.all (fun k=>memD (insD N) k d)else if m=1∨m=2∨m=3 then _ else false)=(if m=0 then !ks.isEmpty&&ks.all (fun k=>memD (insD (N+1)) k d)else if m=1∨m=2∨m=3 then _ else false)
  have e1:ks.all (fun k=>memD (insD N) k d)=ks.all (fun k=>memD (insD (N+1)) k d):=by
   rw[Bool.eq_iff_iff,List.all_eq_true,List.all_eq_true]
   have e:∀x,x∈ks→memD (insD N) x d=memD (insD (N+1)) x d:=fun x hx=>by unfold memD;rw[each x hx]
   exact⟨fun q x hx=>(e x hx)▸q x hx,fun q x hx=>(e x hx).symm▸q x hx⟩
  rw[e1]
  congr 1
  congr 1
  match ks,each with
  |[],_=>rfl
  |[x],_=>rfl
  |[l,r],each=>
   show(sideB l&&sideB r&&decide (r.mode=0)&&(insD N l d&&insD N r d))=(sideB l&&sideB r&&decide (r.mode=0)&&(insD (N+1) l d&&insD (N+1) r d))
   rw[each l (by simp),each r (by simp)]
  |_::_::_::_,_=>rfl
theorem leaf_c{base:Nat}{w:World}{pb:Nat}{c:Ck}{F:FuncId}{args:Array Value}{R:Bool}{P:Option Ck}(hB:base≤w.heap.size)(hC:CkAt base w pb c)(hP:P=if R=true then some c else none)(C:Calls Tryz.prog F args w fun e w'=>e=.returned (.bool R)∧Below w.heap.size w w'):
  Calls Tryz.prog F args w fun e w'=>e=.returned (.bool P.isSome)∧Below base w w'∧Nx base pb P w':=by
 refine C.mono fun e w'⟨h1,h2⟩=>⟨?_,below_less h2 hB,?_⟩
 ·rw[h1,hP];cases R<;>rfl
 ·rw[hP]
  cases R with
  |false=>exact nx_none rfl
  |true=>exact nx_some rfl (hC.on h2)
section
variable(N:Nat)(m a b:Int)(g:Bool)(n:ByteArray)(s:List R)(ks:List Nd)(c:Ck)(d:Int)
theorem pd_1:partD (N+1) (.mk 1 m a b g n s ks) c d=if(bareB m a b g n s.length ks.length 0 a 0 false ⟨#[]⟩ 0&&pointB a)=true then some c else none:=by
 rw[oz_1,point_len,partD]
 cases othersZ (.mk 1 m a b g n s ks)<;>rfl
theorem pd_2:partD (N+1) (.mk 2 m a b g n s ks) c d=if(bareB m a b g n s.length ks.length 0 0 0 false ⟨#[]⟩ 0)=true then some c else none:=by
 rw[oz_2,partD]
 cases othersZ (.mk 2 m a b g n s ks)<;>rfl
theorem pd_14:partD (N+1) (.mk 14 m a b g n s ks) c d=if(bareB m a b g n s.length ks.length 0 0 0 false ⟨#[]⟩ 0)=true then some c else none:=by
 rw[oz_14,partD]
 cases othersZ (.mk 14 m a b g n s ks)<;>rfl
theorem pd_12:partD (N+1) (.mk 12 m a b g n s ks) c d=if(bareB m a b g n s.length ks.length m 0 0 false ⟨#[]⟩ 0&&(decide (1≤m)&&decide (m≤10)))=true then some c else none:=by
 rw[oz_12,partD]
 cases othersZ (.mk 12 m a b g n s ks)<;>rfl
theorem pd_5:partD (N+1) (.mk 5 m a b g n s ks) c d=if(bareB m a b g n s.length ks.length 0 0 0 g n 0&&propD n)=true then some c else none:=by
 rw[oz_5,partD]
 cases othersZ (.mk 5 m a b g n s ks)<;>rfl
theorem pd_13:partD (N+1) (.mk 13 m a b g n s ks) c d=if(bareB m a b g n s.length ks.length 0 a 0 false ⟨#[]⟩ 0&&(decide (1≤a)&&decide (a≤c.1)))=true then some c else none:=by
 rw[oz_13,partD]
 cases othersZ (.mk 13 m a b g n s ks)with
 |false=>rfl
 |true=>
  show(if 0<a∧a≤c.1 then some c else none)=if(decide (1≤a)&&decide (a≤c.1))=true then some c else none
  by_cases h:0<a∧a≤c.1
  ·rw[if_pos h,if_pos (by simp;omega)]
  ·rw[if_neg h,if_neg (by simp;omega)]
theorem pd_3(h:(Nd.mk 3 m a b g n s ks).sz≤N+1):partD (N+1) (.mk 3 m a b g n s ks) c d=if clsB (N+1) (.mk 3 m a b g n s ks) (d+1)=true then some c else none:=by
 unfold clsB
 rw[partD,←ins_fuel N _ _ h]
 cases othersZ (.mk 3 m a b g n s ks)with
 |false=>
  show none=if(true&&decide (d+1≤50)&&false&&insD N (.mk 3 m a b g n s ks) (d+1))=true then some c else none
  cases decide (d+1≤50)<;>rfl
 |true=>
  show(if(decide (d+1≤50)&&insD N (.mk 3 m a b g n s ks) (d+1))=true then some c else none)=if(true&&decide (d+1≤50)&&true&&insD N (.mk 3 m a b g n s ks) (d+1))=true then some c else none
  cases decide (d+1≤50)<;>rfl
theorem pd_8:partD (N+1) (.mk 8 m a b g n s ks) c d=if othersZ (.mk 8 m a b g n s ks)=true then repP (partD N) m a b c d ks else none:=by
 rw[partD]
 cases othersZ (.mk 8 m a b g n s ks)with
 |false=>rfl
 |true=>
  match ks with
  |[]=>rfl
  |[x]=>rfl
  |_::_::_=>rfl
theorem pd_9:partD (N+1) (.mk 9 m a b g n s ks) c d=if othersZ (.mk 9 m a b g n s ks)=true then((grpD (.mk 9 m a b g n s ks) c).bind fun c'=>enclD (partD N) ks c' d)else none:=by
 rw[partD]
 cases othersZ (.mk 9 m a b g n s ks)<;>rfl
theorem pd_10:partD (N+1) (.mk 10 m a b g n s ks) c d=if othersZ (.mk 10 m a b g n s ks)=true then(if 0≤m∧m≤3 then enclD (partD N) ks c d else none)else none:=by
 rw[partD]
 cases othersZ (.mk 10 m a b g n s ks)<;>rfl
theorem pd_11:partD (N+1) (.mk 11 m a b g n s ks) c d=if othersZ (.mk 11 m a b g n s ks)=true then enclD (partD N) ks c d else none:=by
 rw[partD]
 cases othersZ (.mk 11 m a b g n s ks)<;>rfl
theorem pd_0(k:Int)(h1:¬k=1)(h2:¬k=2)(h14:¬k=14)(h3:¬k=3)(h5:¬k=5)(h12:¬k=12)(h13:¬k=13)(h8:¬k=8)(h9:¬k=9)(h10:¬k=10)(h11:¬k=11):partD (N+1) (.mk k m a b g n s ks) c d=if false=true then some c else none:=by
 rw[partD]
 show(if _ then none else if k=1 then _ else if k=2 then _ else if k=3 then _ else if k=5 then _ else if k=8 then _ else if k=9 then _ else if k=10 then _ else if k=11 then _ else if k=12 then _ else if k=13 then _ else if k=14 then _ else _)=_
 rw[if_neg h1,if_neg h2,if_neg h3,if_neg h5,if_neg h8,if_neg h9,if_neg h10,if_neg h11,if_neg h12,if_neg h13,if_neg h14]
 split<;>rfl
end
theorem part_d(base:Nat):∀N:Nat,CkC N 29 (partD N) base
 |0=>by intro t v w pb c d hz;cases t;rw[Nd.sz]at hz;omega
 |N+1=>by
  have ih:=part_d base N
  have hbd:=body_d (seq_d ih)
  intro t v w pb c d hz hs hv hB h0 h1 hC
  obtain⟨k,m,a,b,g,n,s,ks,ta,tc,ka,kc,rfl,rfl,_,_,_,hk1,hk2,hk3,hkv⟩:=hv.open
  have hs':=hs
  have hz':=hz
  rw[shortN]at hs
  rw[Nd.sz]at hz
  have hk2':kc≤9223372036854775807:=hk2
  have HB:Hid (∀(t:Nd)(v:Value)(W:World)(c:Ck)(d':Int),t∈ks→d'=d+1→d'≤50→NV base W t v→base≤W.heap.size→CkAt base W pb c→Calls Tryz.prog 15 #[.pointer (some ⟨pb,0,none⟩),v,.int .i64 d'] W fun e w'=>e=.returned (.bool (bodyD (partD N) t c d').isSome)∧Below base W w'∧Nx base pb (bodyD (partD N) t c d') w'):=
   fun t v W c d' hm e hd hv hb hc=>hbd t v W pb c d' (by have:=szL_mem hm;omega) (short_mem hs.2 hm) hv hb (by omega) hd hc
  by_cases k1:k=1
  ·subst k1;exact leaf_c hB hC (pd_1 N m a b g n s ks c d) (part_1 m a b g n ta s.length tc ka ks.length kc w pb d)
  by_cases k2:k=2
  ·subst k2;exact leaf_c hB hC (pd_2 N m a b g n s ks c d) (part_2 m a b g n ta s.length tc ka ks.length kc w pb d)
  by_cases k14:k=14
  ·subst k14;exact leaf_c hB hC (pd_14 N m a b g n s ks c d) (part_14 m a b g n ta s.length tc ka ks.length kc w pb d)
  by_cases k3:k=3
  ·subst k3;exact leaf_c hB hC (pd_3 N m a b g n s ks c d hz') (part_3 m a b g n ta s.length tc ka ks.length kc w pb d _ h0 h1 (fun W hW=>class_d (N+1) _ _ base W (d+1) hz' hs' (hv.keep (below_less hW hB)) (Nat.le_trans hB hW.size) (by omega) (by omega)))
  by_cases k5:k=5
  ·subst k5;exact leaf_c hB hC (pd_5 N m a b g n s ks c d) (part_5 m a b g n ta s.length tc ka ks.length kc w pb d hs.1)
  by_cases k12:k=12
  ·subst k12;exact leaf_c hB hC (pd_12 N m a b g n s ks c d) (part_12 m a b g n ta s.length tc ka ks.length kc w pb d)
  by_cases k13:k=13
  ·subst k13
   obtain⟨v',hb',_⟩:=hC.row
   exact leaf_c hB hC (pd_13 N m a b g n s ks c d) (part_13 m a b g n ta s.length tc ka ks.length kc w pb c.1 v' d hb')
  by_cases k8:k=8
  ·subst k8
   rw[pd_8]
   exact part_8 m a b g n ta s.length tc ka ks.length kc s ks w pb c d rfl rfl (by omega) hk1 hkv hB hC h0 h1 (fun t v W c d' hm e hd hv hb hc=>ih t v W pb c d' (by have:=szL_mem hm;omega) (short_mem hs.2 hm) hv hb (by omega) hd hc)
  by_cases k9:k=9
  ·subst k9
   rw[pd_9]
   exact part_9 m a b g n ta s.length tc ka ks.length kc s ks w pb c d rfl rfl (by omega) hk1 hkv hB hC h0 h1 hs.1 HB
  by_cases k10:k=10
  ·subst k10
   rw[pd_10]
   exact part_10 m a b g n ta s.length tc ka ks.length kc s ks w pb c d rfl rfl (by omega) hk1 hkv hB hC h0 h1 HB
  by_cases k11:k=11
  ·subst k11
   rw[pd_11]
   exact part_11 m a b g n ta s.length tc ka ks.length kc s ks w pb c d rfl rfl (by omega) hk1 hkv hB hC h0 h1 HB
  exact leaf_c hB hC (pd_0 N m a b g n s ks c d k k1 k2 k14 k3 k5 k12 k13 k8 k9 k10 k11) (part_0 k m a b g n ta s.length tc ka ks.length kc w pb d k1 k2 k14 k3 k5 k12 k13 k8 k9 k10 k11)
theorem can_d(base N:Nat):CkC (N+1) 15 (bodyD (partD N)) base:=body_d (seq_d (part_d base N))
end Go.Proofs.YtbbeciofgnkggaaGreatDoor.tre
end
namespace Go.Proofs.YtbbeciofgnkggaaGreatDoor.tre
open Go.RowKit nod tok
open rng(R RV ret_int ret_bool info_parts own_below')
theorem rt_str{a b:ByteArray}(h:a=b):Ending.returned (.string a)=Ending.returned (.string b):=by rw[h]
def digs:ByteArray:=⟨#[48,49,50,51,52,53,54,55,56,57]⟩
theorem ba_eq{a b:ByteArray}(h:a.data.toList=b.data.toList):a=b:=by
 obtain⟨⟨x⟩⟩:=a
 obtain⟨⟨y⟩⟩:=b
 simp at h
 rw[h]
theorem dig_at:∀r:Fin 10,digs.extract r.val (r.val+1)=dec r.val:=by
 intro r
 apply ba_eq
 rw[ByteArray.data_extract,Array.toList_extract]
 revert r
 decide+kernel
theorem dig_at'(r:Nat)(h:r≤9):(⟨#[48,49,50,51,52,53,54,55,56,57]⟩:ByteArray).extract r (r+1)=dec r:=dig_at ⟨r,by omega⟩
theorem dec_two:∀q:Fin 11,∀r:Fin 10,0<q.val→dec q.val++dec r.val=dec ((10*q.val+r.val:Nat):Int):=by
 intro q r h
 apply ba_eq
 rw[ByteArray.data_append,Array.toList_append]
 revert q r h
 decide+kernel
theorem dec_size:∀n:Fin 110,(dec n.val).data.toList.length≤3:=by decide+kernel
theorem dec_sz(n:Nat)(h:n≤109):(dec n).size≤3:=dec_size ⟨n,by omega⟩
theorem num_base(r:Nat)(hr:r≤9)(w:World):Calls Tryz.prog 22 #[.int .i64 r] w fun e w'=>e=.returned (.string (dec r))∧w'=w:=by
 have:r=0∨r=1∨r=2∨r=3∨r=4∨r=5∨r=6∨r=7∨r=8∨r=9:=by omega
 rcases this with rfl|rfl|rfl|rfl|rfl|rfl|rfl|rfl|rfl|rfl<;>
  (go_enter Tryz.func22,Tryz.ntmps22;go_wp2;go_ret;exact⟨rt_str (dig_at' _ (by decide)),rfl⟩)
theorem num_step(n q r:Nat)(hn:n=10*q+r)(hr:r≤9)(hq0:0<q)(hq:q≤10)(w:World)(C:Calls Tryz.prog 22 #[.int .i64 q] w fun e w'=>e=.returned (.string (dec q))∧w'=w):Calls Tryz.prog 22 #[.int .i64 n] w fun e w'=>e=.returned (.string (dec n))∧w'=w:=by
 have HE:Hid (dec q++dec r=dec n):=by unfold Hid;rw[hn];exact dec_two ⟨q,by omega⟩ ⟨r,by omega⟩ hq0
 have hm:Int.tmod (n:Int) 10=r:=by rw[Int.tmod_eq_emod_of_nonneg (by omega)];omega
 have hd:Int.tdiv (n:Int) 10=q:=by rw[Int.tdiv_eq_ediv_of_nonneg (by omega)];omega
 have hs:¬9223372036854775807<(dec q).size+(dec r).size:=by have:=dec_sz q (by omega);have:=dec_sz r (by omega);omega
 have h10:¬(n:Int)<10:=by omega
 have h10':(10:Int)≤n:=by omega
 have hnn:(n:Int)≤109:=by omega
 clear hn
 go_enter Tryz.func22,Tryz.ntmps22
 go_wp2_with fail
 refine C.mono ?_
 rintro e w'⟨rfl,hw⟩
 rw[hw]
 clear C hw
 rw[dig_at' r hr]
 go_wp2
 go_ret
 exact⟨rt_str HE.out,rfl⟩
theorem number_d(n:Int)(h0:0≤n)(h1:n≤100)(w:World):Calls Tryz.prog 22 #[.int .i64 n] w fun e w'=>e=.returned (.string (dec n))∧w'=w:=by
 obtain⟨k,rfl⟩:∃k:Nat,n=k:=⟨n.toNat,by omega⟩
 have base:∀q:Nat,q≤10→Calls Tryz.prog 22 #[.int .i64 q] w fun e w'=>e=.returned (.string (dec q))∧w'=w:=by
  intro q hq
  rcases Nat.lt_or_ge q 10 with h|h
  ·exact num_base q (by omega) w
  ·exact num_step q 1 0 (by omega) (by omega) (by omega) (by omega) w (num_base 1 (by omega) w)
 rcases Nat.lt_or_ge k 10 with h|h
 ·exact base k (by omega)
 ·exact num_step k (k/10) (k%10) (by omega) (by omega) (by omega) (by omega) w (base _ (by omega))
end Go.Proofs.YtbbeciofgnkggaaGreatDoor.tre
namespace Go.Proofs.YtbbeciofgnkggaaGreatDoor.tre
open Go.RowKit nod tok
open rng(R RV ret_int ret_bool info_parts own_below')
theorem one_byte:∀x:Fin 256,propD ⟨#[UInt8.ofNat x.val]⟩=true→x.val=100∨x.val=119∨x.val=115:=by decide+kernel
end Go.Proofs.YtbbeciofgnkggaaGreatDoor.tre
