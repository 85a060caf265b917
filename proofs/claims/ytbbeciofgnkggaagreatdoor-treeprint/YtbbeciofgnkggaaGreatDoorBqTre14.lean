import Derived.Test.YtbbeciofgnkggaaGreatDoorBqTre13
import Derived.Test.YtbbeciofgnkggaaGreatDoorBqNod1
set_option linter.unusedSimpArgs false
set_option linter.unusedVariables false
set_option maxRecDepth 100000
set_option maxHeartbeats 4000000
namespace Go.Proofs.YtbbeciofgnkggaaGreatDoor.tre
open Go.RowKit nod tok
open rng(R RV ret_int ret_bool info_parts own_below')
abbrev CkC(M:Nat)(F:FuncId)(D:DP)(base:Nat):Prop:=∀(t:Nd)(v:Value)(w:World)(pb:Nat)(c:Ck)(d:Int),t.sz≤M→shortN t→NV base w t v→base≤w.heap.size→0≤d→d≤50→CkAt base w pb c→
 Calls Tryz.prog F #[.pointer (some ⟨pb,0,none⟩),v,.int .i64 d] w fun e w'=>e=.returned (.bool (D t c d).isSome)∧Below base w w'∧Nx base pb (D t c d) w'
theorem seq_6{base:Nat}{D:DP}(m a b:Int)(g:Bool)(n:ByteArray)(ta:Option Addr)(tl tc:Nat)(ka:Option Addr)(kl kc:Nat)(st:List R)(ks:List Nd)(w:World)(pb:Nat)(c:Ck)(d:Int)(hsl:st.length=tl)(hkl:ks.length=kl)(hkm:kl≤9223372036854775807)(hkc:kl≤kc)(hkv:KV base w ka ks)(hB:base≤w.heap.size)(hC:CkAt base w pb c)
  (HI:Hid (∀(t:Nd)(v:Value)(W:World)(pb:Nat)(c:Ck)(d':Int),d'=d→t∈ks→NV base W t v→base≤W.heap.size→CkAt base W pb c→Calls Tryz.prog 29 #[.pointer (some ⟨pb,0,none⟩),v,.int .i64 d'] W fun e w'=>e=.returned (.bool (D t c d').isSome)∧Below base W w'∧Nx base pb (D t c d') w')):
  Calls Tryz.prog 23 #[.pointer (some ⟨pb,0,none⟩),.agg (n8 6 m a b g n ta tl tc ka kl kc),.int .i64 d] w fun e w'=>e=.returned (.bool (seqD D (.mk 6 m a b g n st ks) c d).isSome)∧Below base w w'∧Nx base pb (seqD D (.mk 6 m a b g n st ks) c d) w':=by
 obtain⟨W0,hW0,HW0,b0,HX0⟩:=st0 w (n8 6 m a b g n ta tl tc ka kl kc) 25
 have HB0:Hid (Below base w W0):=below_less b0 hB
 have HC0:Hid (CkAt base W0 pb c):=hC.on b0
 have HBS:Hid (base≤w.heap.size):=hB
 clear hW0 b0 hC
 have HL:Hid (ks.length=kl):=hkl
 have HK:Hid (KV base w ka ks):=hkv
 have CB:=bare_any 6 m a b g n ta tl tc ka kl kc 0 0 0 0 false ⟨#[]⟩ none 0 0 ka kl kc W0
 have ho:=oz_6 m a b g n st ks
 rw[hsl,hkl]at ho
 obtain⟨P,hP⟩:∃P,seqD D (.mk 6 m a b g n st ks) c d=P:=⟨_,rfl⟩
 have hs:seqD D (.mk 6 m a b g n st ks) c d=if othersZ (.mk 6 m a b g n st ks)=true then loopD D ks c d else none:=by
  unfold seqD
  by_cases h:othersZ (.mk 6 m a b g n st ks)=true
  ·rw[if_pos ⟨rfl,h⟩,if_pos h];rfl
  ·rw[if_neg (fun q=>h q.2),if_neg h]
 rw[hP]at hs⊢
 rw[ho]at CB
 obtain⟨R,hR⟩:∃R,othersZ (.mk 6 m a b g n st ks)=R:=⟨_,rfl⟩
 rw[hR]at hs CB
 have HS:Hid (P=if R=true then loopD D ks c d else none):=hs
 clear hP hs ho hR hkl hsl hkv
 go_enter Tryz.func23,Tryz.ntmps23
 go_upto_region 1 with fail
 rw[HW0.out]
 clear HW0
 have x0:=HX0.out.cell 0 (u:=.int .i64 6) rfl
 obtain⟨-,x1,x2,x3,x4,x5,x6,x7⟩:=at8c HX0.out
 go_wp2_with fail
 refine CB.mono ?_
 rintro e w1⟨rfl,b1⟩
 have HC1:Hid (CkAt base w1 pb c):=HC0.out.on b1
 have HB1:Hid (Below base w w1):=HB0.out.trans (below_less b1 (Nat.le_trans HBS.out HB0.out.size))
 have z7:=(HX0.out.on b1).cell 7 (u:=.slice ka kl kc) rfl
 clear CB b1 x0 x1 x2 x3 x4 x5 x6 x7 HX0 HB0 HC0
 cases R with
 |false=>
  have HE:Hid (P=none):=HS.out
  clear HS
  go_wp2
  go_ret
  exact⟨rt_bool (by rw[HE.out];rfl),HB1.out,nx_none HE.out⟩
 |true=>
  have HE:Hid (loopD D (ks.drop 0) c d=P):=HS.out.symm
  clear HS
  replace HI:Hid (∀(t:Nd)(v:Value)(W:World)(pb:Nat)(c:Ck)(d':Int),t∈ks→NV base W t v→base≤W.heap.size→CkAt base W pb c→d'=d→Calls Tryz.prog 29 #[.pointer (some ⟨pb,0,none⟩),v,.int .i64 d'] W fun e w'=>e=.returned (.bool (D t c d').isSome)∧Below base W w'∧Nx base pb (D t c d') w'):=fun t v W pb c d' h1 h2 h3 h4 h5=>HI.out t v W pb c d' h5 h1 h2 h3 h4
  go_wp2
  go_loopw[23](fun i wr=>∃j:Nat,j≤kl∧i=.int .i64 j∧∃c',Hid (loopD (D) (ks.drop j) c' d=P)∧Hid (CkAt base wr pb c')∧Hid (Below base w wr))(fun i _=>kl-(intOf i).toNat)
  case atStart=>exact⟨0,Nat.zero_le _,rfl,c,HE,HC1,HB1⟩
  case round=>
   clear HC1 HB1 HE
   obtain⟨j,hj,rfl,c',HE,HC,HW⟩:=hrel
   by_cases hlt:j<kl
   ·have hlt':(j:Int)<(kl:Int):=by omega
    obtain⟨t,ht⟩:=getX HL.out hlt
    obtain⟨bb,off,rfl,hka⟩:=(HK.out.below HW.out).some (by have:=HL.out;omega)
    obtain⟨k',m',a',b',g',n',s',kk,sa',sc',ao',cap',rfl,⟨e0,e1,e2,e3,e4,e5,e6,e7⟩,hv'⟩:=hka.kid ht
    have hmem:=List.mem_of_getElem? ht
    have hBr:base≤wr.heap.size:=Nat.le_trans HBS.out HW.out.size
    have HD:Hid (((D) (.mk k' m' a' b' g' n' s' kk) c' d).bind (fun q=>loopD (D) (ks.drop (j+1)) q d)=P):=by have h:=HE.out;rw[dropX ht,loopD]at h;exact h
    have C:=HI.out (.mk k' m' a' b' g' n' s' kk) _ (wr.alloc (.cells (n8 k' m' a' b' g' n' sa' s'.length sc' ao' kk.length cap') 25)) pb c' d hmem (hv'.keep ((Below.refl _ wr).alloc hBr _)) (by simp;omega) (HC.out.on ((Below.refl _ wr).alloc (Nat.le_refl _) _)) rfl
    generalize s'.length=sl' at*
    generalize kk.length=nk' at*
    have HC1:Hid (Below base w (wr.alloc (.cells (n8 k' m' a' b' g' n' sa' sl' sc' ao' nk' cap') 25))):=HW.out.alloc hBr _
    obtain⟨Q,hQ⟩:∃Q,(D) (.mk k' m' a' b' g' n' s' kk) c' d=Q:=⟨_,rfl⟩
    rw[hQ]at C HD
    clear HW hka hv' ht hmem HE HC hQ hBr
    cases Q with
    |none=>
     have HE:Hid (P=none):=HD.out.symm.trans rfl
     clear HD
     go_wp2_with(go_at_call 29;refine C.mono ?_;rintro e w2⟨rfl,dd,_⟩;have HG:Hid (Below base w w2):=HC1.out.trans dd;clear dd)
     go_ret
     exact⟨rt_bool (by rw[HE.out];rfl),HG.out,nx_none HE.out⟩
    |some q=>
     have HE:Hid (loopD (D) (ks.drop (j+1)) q d=P):=HD.out
     clear HD
     go_wp2_with(go_at_call 29;refine C.mono ?_;rintro e w2⟨rfl,dd,nn⟩;have HG:Hid (Below base w w2):=HC1.out.trans dd;have HC2:Hid (CkAt base w2 pb q):=nn q rfl;clear dd nn)
     go_roundw
     case rel=>exact⟨j+1,by omega,by go_num,q,HE,HC2,HG⟩
     case measure=>simp[intOf];omega
   ·have HE2:Hid (P=some c'):=by
     have h:=HE.out
     rw[List.drop_of_length_le (by have:=HL.out;omega),loopD]at h
     exact h.symm
    clear HE HK HI
    go_wp2
    go_ret
    exact⟨rt_bool (by rw[HE2.out];rfl),HW.out,nx_some HE2.out HC.out⟩
theorem seq_no(k m a b:Int)(g:Bool)(n:ByteArray)(ta:Option Addr)(tl tc:Nat)(ka:Option Addr)(kl kc:Nat)(w:World)(pb:Nat)(d:Int)(h6:¬k=6):
  Calls Tryz.prog 23 #[.pointer (some ⟨pb,0,none⟩),.agg (n8 k m a b g n ta tl tc ka kl kc),.int .i64 d] w fun e w'=>e=.returned (.bool false)∧Below w.heap.size w w':=by
 have z6:(k==6)=false:=by simp[h6]
 have HB0:Hid (Below w.heap.size w (w.alloc (.cells (n8 k m a b g n ta tl tc ka kl kc) 25))):=(Below.refl _ w).alloc (Nat.le_refl _) _
 go_enter Tryz.func23,Tryz.ntmps23
 go_wp2
 go_ret
 exact⟨rfl,HB0.out⟩
theorem seq_d{M base:Nat}{D:DP}(HP:CkC M 29 D base):CkC (M+1) 23 (seqD D) base:=by
 intro t v w pb c d hz hs hv hB h0 h1 hC
 obtain⟨k,m,a,b,g,n,s,ks,ta,tc,ka,kc,rfl,rfl,_,_,_,hk1,hk2,hk3,hkv⟩:=hv.open
 rw[shortN]at hs
 rw[Nd.sz]at hz
 have hk2':kc≤9223372036854775807:=hk2
 by_cases h6:k=6
 ·subst h6
  exact seq_6 m a b g n ta s.length tc ka ks.length kc s ks w pb c d rfl rfl (by omega) hk1 hkv hB hC (fun t v W pb c d' e hm hv hb hc=>by subst e;exact HP t v W pb c d' (by have:=szL_mem hm;omega) (short_mem hs.2 hm) hv hb h0 h1 hc)
 ·have e:seqD D (.mk k m a b g n s ks) c d=none:=if_neg (fun q=>h6 q.1)
  rw[e]
  exact(seq_no k m a b g n ta s.length tc ka ks.length kc w pb d h6).mono fun e w'⟨h1,h2⟩=>⟨h1,below_less h2 hB,nx_none rfl⟩
theorem body_7{base:Nat}{D:DP}(m a b:Int)(g:Bool)(n:ByteArray)(ta:Option Addr)(tl tc:Nat)(ka:Option Addr)(kl kc:Nat)(st:List R)(ks:List Nd)(w:World)(pb:Nat)(c:Ck)(d:Int)(hsl:st.length=tl)(hkl:ks.length=kl)(hkm:kl≤9223372036854775807)(hkc:kl≤kc)(hkv:KV base w ka ks)(hB:base≤w.heap.size)(hC:CkAt base w pb c)
  (HI:Hid (∀(t:Nd)(v:Value)(W:World)(pb:Nat)(c:Ck)(d':Int),t∈ks→NV base W t v→base≤W.heap.size→CkAt base W pb c→d'=d→Calls Tryz.prog 23 #[.pointer (some ⟨pb,0,none⟩),v,.int .i64 d'] W fun e w'=>e=.returned (.bool (seqD D t c d').isSome)∧Below base W w'∧Nx base pb (seqD D t c d') w')):
  Calls Tryz.prog 15 #[.pointer (some ⟨pb,0,none⟩),.agg (n8 7 m a b g n ta tl tc ka kl kc),.int .i64 d] w fun e w'=>e=.returned (.bool (bodyD D (.mk 7 m a b g n st ks) c d).isSome)∧Below base w w'∧Nx base pb (bodyD D (.mk 7 m a b g n st ks) c d) w':=by
 obtain⟨W0,hW0,HW0,b0,HX0⟩:=st0 w (n8 7 m a b g n ta tl tc ka kl kc) 25
 have HB0:Hid (Below base w W0):=below_less b0 hB
 have HC0:Hid (CkAt base W0 pb c):=hC.on b0
 have HBS:Hid (base≤w.heap.size):=hB
 clear hW0 b0 hC
 have HL:Hid (ks.length=kl):=hkl
 have HK:Hid (KV base w ka ks):=hkv
 have CB:=bare_any 7 m a b g n ta tl tc ka kl kc 0 0 0 0 false ⟨#[]⟩ none 0 0 ka kl kc W0
 have ho:=oz_7 m a b g n st ks
 rw[hsl,hkl]at ho
 obtain⟨P,hP⟩:∃P,bodyD D (.mk 7 m a b g n st ks) c d=P:=⟨_,rfl⟩
 have hs:bodyD D (.mk 7 m a b g n st ks) c d=if othersZ (.mk 7 m a b g n st ks)=true∧2≤kl then loopD (seqD D) ks c d else none:=by
  unfold bodyD
  rw[if_neg (by show¬(7:Int)=6;decide),if_pos (by rfl)]
  by_cases h:othersZ (.mk 7 m a b g n st ks)=true∧2≤kl
  ·rw[if_pos h,if_pos ⟨h.1,(by show 2≤ks.length;rw[hkl];exact h.2)⟩];rfl
  ·rw[if_neg h,if_neg (fun q=>h ⟨q.1,(by rw[←hkl];exact q.2)⟩)]
 rw[hP]at hs⊢
 rw[ho]at CB
 obtain⟨R,hR⟩:∃R,othersZ (.mk 7 m a b g n st ks)=R:=⟨_,rfl⟩
 rw[hR]at hs CB
 have HS:Hid (P=if R=true∧2≤kl then loopD (seqD D) ks c d else none):=hs
 clear hP hs ho hR hkl hsl hkv
 go_enter Tryz.func15,Tryz.ntmps15
 go_upto_region 1 with fail
 rw[HW0.out]
 clear HW0
 have x0:=HX0.out.cell 0 (u:=.int .i64 7) rfl
 obtain⟨-,x1,x2,x3,x4,x5,x6,x7⟩:=at8c HX0.out
 go_wp2_with fail
 refine CB.mono ?_
 rintro e w1⟨rfl,b1⟩
 have HC1:Hid (CkAt base w1 pb c):=HC0.out.on b1
 have HB1:Hid (Below base w w1):=HB0.out.trans (below_less b1 (Nat.le_trans HBS.out HB0.out.size))
 have z7:=(HX0.out.on b1).cell 7 (u:=.slice ka kl kc) rfl
 clear CB b1 x0 x1 x2 x3 x4 x5 x6 x7 HX0 HB0 HC0
 cases R with
 |false=>
  have HE:Hid (P=none):=HS.out.trans (if_neg (fun q=>absurd q.1 (by decide)))
  clear HS
  go_wp2
  go_ret
  exact⟨rt_bool (by rw[HE.out];rfl),HB1.out,nx_none HE.out⟩
 |true=>
  by_cases h2:2≤kl
  rotate_left
  ·have HE:Hid (P=none):=HS.out.trans (if_neg (fun q=>h2 q.2))
   have h3:(kl:Int)<2:=by omega
   clear HS h2
   go_wp2
   go_ret
   exact⟨rt_bool (by rw[HE.out];rfl),HB1.out,nx_none HE.out⟩
  have HE:Hid (loopD (seqD D) (ks.drop 0) c d=P):=(HS.out.trans (if_pos ⟨rfl,h2⟩)).symm
  have h3:¬(kl:Int)<2:=by omega
  clear HS h2
  go_wp2
  go_loopw[31](fun i wr=>∃j:Nat,j≤kl∧i=.int .i64 j∧∃c',Hid (loopD (seqD D) (ks.drop j) c' d=P)∧Hid (CkAt base wr pb c')∧Hid (Below base w wr))(fun i _=>kl-(intOf i).toNat)
  case atStart=>exact⟨0,Nat.zero_le _,rfl,c,HE,HC1,HB1⟩
  case round=>
   clear HC1 HB1 HE
   obtain⟨j,hj,rfl,c',HE,HC,HW⟩:=hrel
   by_cases hlt:j<kl
   ·have hlt':(j:Int)<(kl:Int):=by omega
    obtain⟨t,ht⟩:=getX HL.out hlt
    obtain⟨bb,off,rfl,hka⟩:=(HK.out.below HW.out).some (by have:=HL.out;omega)
    obtain⟨k',m',a',b',g',n',s',kk,sa',sc',ao',cap',rfl,⟨e0,e1,e2,e3,e4,e5,e6,e7⟩,hv'⟩:=hka.kid ht
    have hmem:=List.mem_of_getElem? ht
    have hBr:base≤wr.heap.size:=Nat.le_trans HBS.out HW.out.size
    have HD:Hid (((seqD D) (.mk k' m' a' b' g' n' s' kk) c' d).bind (fun q=>loopD (seqD D) (ks.drop (j+1)) q d)=P):=by have h:=HE.out;rw[dropX ht,loopD]at h;exact h
    have C:=HI.out (.mk k' m' a' b' g' n' s' kk) _ (wr.alloc (.cells (n8 k' m' a' b' g' n' sa' s'.length sc' ao' kk.length cap') 25)) pb c' d hmem (hv'.keep ((Below.refl _ wr).alloc hBr _)) (by simp;omega) (HC.out.on ((Below.refl _ wr).alloc (Nat.le_refl _) _)) rfl
    generalize s'.length=sl' at*
    generalize kk.length=nk' at*
    have HC1:Hid (Below base w (wr.alloc (.cells (n8 k' m' a' b' g' n' sa' sl' sc' ao' nk' cap') 25))):=HW.out.alloc hBr _
    obtain⟨Q,hQ⟩:∃Q,(seqD D) (.mk k' m' a' b' g' n' s' kk) c' d=Q:=⟨_,rfl⟩
    rw[hQ]at C HD
    clear HW hka hv' ht hmem HE HC hQ hBr
    cases Q with
    |none=>
     have HE:Hid (P=none):=HD.out.symm.trans rfl
     clear HD
     go_wp2_with(go_at_call 23;refine C.mono ?_;rintro e w2⟨rfl,dd,_⟩;have HG:Hid (Below base w w2):=HC1.out.trans dd;clear dd)
     go_ret
     exact⟨rt_bool (by rw[HE.out];rfl),HG.out,nx_none HE.out⟩
    |some q=>
     have HE:Hid (loopD (seqD D) (ks.drop (j+1)) q d=P):=HD.out
     clear HD
     go_wp2_with(go_at_call 23;refine C.mono ?_;rintro e w2⟨rfl,dd,nn⟩;have HG:Hid (Below base w w2):=HC1.out.trans dd;have HC2:Hid (CkAt base w2 pb q):=nn q rfl;clear dd nn)
     go_roundw
     case rel=>exact⟨j+1,by omega,by go_num,q,HE,HC2,HG⟩
     case measure=>simp[intOf];omega
   ·have HE2:Hid (P=some c'):=by
     have h:=HE.out
     rw[List.drop_of_length_le (by have:=HL.out;omega),loopD]at h
     exact h.symm
    clear HE HK HI
    go_wp2
    go_ret
    exact⟨rt_bool (by rw[HE2.out];rfl),HW.out,nx_some HE2.out HC.out⟩
theorem body_no{base:Nat}{P:Option Ck}(k m a b:Int)(g:Bool)(n:ByteArray)(ta:Option Addr)(tl tc:Nat)(ka:Option Addr)(kl kc:Nat)(w:World)(pb:Nat)(d:Int)(h7:¬k=7)(hB:base≤w.heap.size)
  (C:Calls Tryz.prog 23 #[.pointer (some ⟨pb,0,none⟩),.agg (n8 k m a b g n ta tl tc ka kl kc),.int .i64 d] (w.alloc (.cells (n8 k m a b g n ta tl tc ka kl kc) 25)) fun e w'=>e=.returned (.bool P.isSome)∧Below base (w.alloc (.cells (n8 k m a b g n ta tl tc ka kl kc) 25)) w'∧Nx base pb P w'):
  Calls Tryz.prog 15 #[.pointer (some ⟨pb,0,none⟩),.agg (n8 k m a b g n ta tl tc ka kl kc),.int .i64 d] w fun e w'=>e=.returned (.bool P.isSome)∧Below base w w'∧Nx base pb P w':=by
 have z7:(k==7)=false:=by simp[h7]
 have HB0:Hid (Below base w (w.alloc (.cells (n8 k m a b g n ta tl tc ka kl kc) 25))):=below_less ((Below.refl _ w).alloc (Nat.le_refl _) _) hB
 go_enter Tryz.func15,Tryz.ntmps15
 go_wp2_with fail
 refine C.mono ?_
 rintro e w2⟨rfl,dd,nn⟩
 have HN:Hid (Nx base pb P w2):=nn
 have HB2:Hid (Below base w w2):=HB0.out.trans dd
 clear C dd nn
 go_wp2
 go_ret
 exact⟨rfl,HB2.out,HN.out⟩
theorem body_seq{D:DP}{t:Nd}{c:Ck}{d:Int}(h7:¬t.kind=7):bodyD D t c d=seqD D t c d:=by
 unfold bodyD
 by_cases h6:t.kind=6
 ·rw[if_pos h6]
 ·rw[if_neg h6,if_neg h7]
  exact(if_neg (fun q=>h6 q.1)).symm
theorem body_d{M base:Nat}{D:DP}(HS:CkC (M+1) 23 (seqD D) base):CkC (M+1) 15 (bodyD D) base:=by
 intro t v w pb c d hz hs hv hB h0 h1 hC
 obtain⟨k,m,a,b,g,n,s,ks,ta,tc,ka,kc,rfl,rfl,_,_,_,hk1,hk2,hk3,hkv⟩:=hv.open
 have hs':=hs
 have hz':=hz
 rw[shortN]at hs
 rw[Nd.sz]at hz
 have hk2':kc≤9223372036854775807:=hk2
 by_cases h7:k=7
 ·subst h7
  exact body_7 m a b g n ta s.length tc ka ks.length kc s ks w pb c d rfl rfl (by omega) hk1 hkv hB hC (fun t v W pb c d' hm hv hb hc e=>by subst e;exact HS t v W pb c d' (by have:=szL_mem hm;omega) (short_mem hs.2 hm) hv hb h0 h1 hc)
 ·have e:bodyD D (.mk k m a b g n s ks) c d=seqD D (.mk k m a b g n s ks) c d:=body_seq (t:=.mk k m a b g n s ks) h7
  rw[e]
  have ba:Below w.heap.size w (w.alloc (.cells (n8 k m a b g n ta s.length tc ka ks.length kc) 25)):=(Below.refl _ w).alloc (Nat.le_refl _) _
  exact body_no k m a b g n ta s.length tc ka ks.length kc w pb d h7 hB (HS _ _ _ pb c d hz' hs' (hv.keep (below_less ba hB)) (Nat.le_trans hB ba.size) h0 h1 (hC.on ba))
end Go.Proofs.YtbbeciofgnkggaaGreatDoor.tre
namespace Go.Proofs.YtbbeciofgnkggaaGreatDoor.tre
open Go.RowKit nod tok
open rng(R RV ret_int ret_bool info_parts own_below')
theorem part_1(m a b:Int)(g:Bool)(n:ByteArray)(ta:Option Addr)(tl tc:Nat)(ka:Option Addr)(kl kc:Nat)(w:World)(pb:Nat)(d:Int):
  Calls Tryz.prog 29 #[.pointer (some ⟨pb,0,none⟩),.agg (n8 1 m a b g n ta tl tc ka kl kc),.int .i64 d] w fun e w'=>e=.returned (.bool ((bareB m a b g n tl kl 0 a 0 false ⟨#[]⟩ 0)&&pointB a))∧Below w.heap.size w w':=by
 obtain⟨W0,hW0,HW0,b0,HX0⟩:=st0 w (n8 1 m a b g n ta tl tc ka kl kc) 25
 have HB0:Hid (Below w.heap.size w W0):=b0
 have CB:=bare_any 1 m a b g n ta tl tc ka kl kc 0 0 a 0 false ⟨#[]⟩ none 0 0 none 0 0 W0
 obtain⟨R,hR⟩:∃R,(bareB m a b g n tl kl 0 a 0 false ⟨#[]⟩ 0)=R:=⟨_,rfl⟩
 rw[hR]at CB⊢
 clear hR hW0 b0
 go_enter Tryz.func29,Tryz.ntmps29
 go_upto_region 1 with fail
 rw[HW0.out]
 clear HW0
 have x0:=HX0.out.cell 0 (u:=.int .i64 1) rfl
 obtain⟨-,x1,x2,x3,x4,x5,x6,x7⟩:=at8c HX0.out
 go_wp2_with fail
 refine CB.mono ?_
 rintro e w1⟨rfl,b1⟩
 have HB1:Hid (Below w.heap.size w w1):=HB0.out.trans (below_less b1 HB0.out.size)
 obtain⟨z0,z1,z2,z3,z4,z5,z6,z7⟩:=at8c (HX0.out.on b1)
 clear CB b1 x0 x1 x2 x3 x4 x5 x6 x7 HX0 HB0
 cases R with
 |false=>
  go_wp2
  go_ret
  exact⟨rt_bool rfl,HB1.out⟩
 |true=>
  have C:=point_d a w1
  obtain⟨P,hP⟩:∃P,pointB a=P:=⟨_,rfl⟩
  rw[hP]at C
  have HPP:Hid (pointB a=P):=hP
  clear hP
  go_wp2_with fail
  refine C.mono ?_
  rintro e w2⟨rfl,hw⟩
  rw[hw]
  clear C hw
  go_wp2
  go_ret
  exact⟨rt_bool (by rw[HPP.out];cases P<;>rfl),HB1.out⟩
theorem part_2(m a b:Int)(g:Bool)(n:ByteArray)(ta:Option Addr)(tl tc:Nat)(ka:Option Addr)(kl kc:Nat)(w:World)(pb:Nat)(d:Int):
  Calls Tryz.prog 29 #[.pointer (some ⟨pb,0,none⟩),.agg (n8 2 m a b g n ta tl tc ka kl kc),.int .i64 d] w fun e w'=>e=.returned (.bool ((bareB m a b g n tl kl 0 0 0 false ⟨#[]⟩ 0)))∧Below w.heap.size w w':=by
 obtain⟨W0,hW0,HW0,b0,HX0⟩:=st0 w (n8 2 m a b g n ta tl tc ka kl kc) 25
 have HB0:Hid (Below w.heap.size w W0):=b0
 have CB:=bare_any 2 m a b g n ta tl tc ka kl kc 0 0 0 0 false ⟨#[]⟩ none 0 0 none 0 0 W0
 obtain⟨R,hR⟩:∃R,(bareB m a b g n tl kl 0 0 0 false ⟨#[]⟩ 0)=R:=⟨_,rfl⟩
 rw[hR]at CB⊢
 clear hR hW0 b0
 go_enter Tryz.func29,Tryz.ntmps29
 go_upto_region 1 with fail
 rw[HW0.out]
 clear HW0
 have x0:=HX0.out.cell 0 (u:=.int .i64 2) rfl
 obtain⟨-,x1,x2,x3,x4,x5,x6,x7⟩:=at8c HX0.out
 go_wp2_with fail
 refine CB.mono ?_
 rintro e w1⟨rfl,b1⟩
 have HB1:Hid (Below w.heap.size w w1):=HB0.out.trans (below_less b1 HB0.out.size)
 obtain⟨z0,z1,z2,z3,z4,z5,z6,z7⟩:=at8c (HX0.out.on b1)
 clear CB b1 x0 x1 x2 x3 x4 x5 x6 x7 HX0 HB0
 go_wp2
 go_ret
 exact⟨rt_bool (by first|rfl|(cases R<;>rfl)),HB1.out⟩
theorem part_14(m a b:Int)(g:Bool)(n:ByteArray)(ta:Option Addr)(tl tc:Nat)(ka:Option Addr)(kl kc:Nat)(w:World)(pb:Nat)(d:Int):
  Calls Tryz.prog 29 #[.pointer (some ⟨pb,0,none⟩),.agg (n8 14 m a b g n ta tl tc ka kl kc),.int .i64 d] w fun e w'=>e=.returned (.bool ((bareB m a b g n tl kl 0 0 0 false ⟨#[]⟩ 0)))∧Below w.heap.size w w':=by
 obtain⟨W0,hW0,HW0,b0,HX0⟩:=st0 w (n8 14 m a b g n ta tl tc ka kl kc) 25
 have HB0:Hid (Below w.heap.size w W0):=b0
 have CB:=bare_any 14 m a b g n ta tl tc ka kl kc 0 0 0 0 false ⟨#[]⟩ none 0 0 none 0 0 W0
 obtain⟨R,hR⟩:∃R,(bareB m a b g n tl kl 0 0 0 false ⟨#[]⟩ 0)=R:=⟨_,rfl⟩
 rw[hR]at CB⊢
 clear hR hW0 b0
 go_enter Tryz.func29,Tryz.ntmps29
 go_upto_region 1 with fail
 rw[HW0.out]
 clear HW0
 have x0:=HX0.out.cell 0 (u:=.int .i64 14) rfl
 obtain⟨-,x1,x2,x3,x4,x5,x6,x7⟩:=at8c HX0.out
 go_wp2_with fail
 refine CB.mono ?_
 rintro e w1⟨rfl,b1⟩
 have HB1:Hid (Below w.heap.size w w1):=HB0.out.trans (below_less b1 HB0.out.size)
 obtain⟨z0,z1,z2,z3,z4,z5,z6,z7⟩:=at8c (HX0.out.on b1)
 clear CB b1 x0 x1 x2 x3 x4 x5 x6 x7 HX0 HB0
 go_wp2
 go_ret
 exact⟨rt_bool (by first|rfl|(cases R<;>rfl)),HB1.out⟩
theorem part_12(m a b:Int)(g:Bool)(n:ByteArray)(ta:Option Addr)(tl tc:Nat)(ka:Option Addr)(kl kc:Nat)(w:World)(pb:Nat)(d:Int):
  Calls Tryz.prog 29 #[.pointer (some ⟨pb,0,none⟩),.agg (n8 12 m a b g n ta tl tc ka kl kc),.int .i64 d] w fun e w'=>e=.returned (.bool ((bareB m a b g n tl kl m 0 0 false ⟨#[]⟩ 0)&&(decide (1≤m)&&decide (m≤10))))∧Below w.heap.size w w':=by
 obtain⟨W0,hW0,HW0,b0,HX0⟩:=st0 w (n8 12 m a b g n ta tl tc ka kl kc) 25
 have HB0:Hid (Below w.heap.size w W0):=b0
 have CB:=bare_any 12 m a b g n ta tl tc ka kl kc 0 m 0 0 false ⟨#[]⟩ none 0 0 none 0 0 W0
 obtain⟨R,hR⟩:∃R,(bareB m a b g n tl kl m 0 0 false ⟨#[]⟩ 0)=R:=⟨_,rfl⟩
 rw[hR]at CB⊢
 clear hR hW0 b0
 go_enter Tryz.func29,Tryz.ntmps29
 go_upto_region 1 with fail
 rw[HW0.out]
 clear HW0
 have x0:=HX0.out.cell 0 (u:=.int .i64 12) rfl
 obtain⟨-,x1,x2,x3,x4,x5,x6,x7⟩:=at8c HX0.out
 go_wp2_with fail
 refine CB.mono ?_
 rintro e w1⟨rfl,b1⟩
 have HB1:Hid (Below w.heap.size w w1):=HB0.out.trans (below_less b1 HB0.out.size)
 obtain⟨z0,z1,z2,z3,z4,z5,z6,z7⟩:=at8c (HX0.out.on b1)
 clear CB b1 x0 x1 x2 x3 x4 x5 x6 x7 HX0 HB0
 cases R with
 |false=>
  go_wp2
  go_ret
  exact⟨rt_bool rfl,HB1.out⟩
 |true=>
  by_cases h1:1≤m
  ·by_cases h2:m≤10
   ·have HQ:Hid ((true&&(decide (1≤m)&&decide (m≤10)))=true):=by unfold Hid;simp[h1,h2]
    go_wp2
    go_ret
    exact⟨rt_bool (by first|exact HQ.out.symm|simp[h1,h2]),HB1.out⟩
   ·have HQ:Hid ((true&&(decide (1≤m)&&decide (m≤10)))=false):=by unfold Hid;simp[h2]
    have h3:10<m:=by omega
    go_wp2
    go_ret
    exact⟨rt_bool (by first|exact HQ.out.symm|simp[h1,h2]),HB1.out⟩
  ·have HQ:Hid ((true&&(decide (1≤m)&&decide (m≤10)))=false):=by unfold Hid;simp[h1]
   have h3:m<1:=by omega
   go_wp2
   go_ret
   exact⟨rt_bool (by first|exact HQ.out.symm|simp[h1,h2]),HB1.out⟩
theorem part_5(m a b:Int)(g:Bool)(n:ByteArray)(ta:Option Addr)(tl tc:Nat)(ka:Option Addr)(kl kc:Nat)(w:World)(pb:Nat)(d:Int)(hn:n.size≤140737488355327):
  Calls Tryz.prog 29 #[.pointer (some ⟨pb,0,none⟩),.agg (n8 5 m a b g n ta tl tc ka kl kc),.int .i64 d] w fun e w'=>e=.returned (.bool ((bareB m a b g n tl kl 0 0 0 g n 0)&&propD n))∧Below w.heap.size w w':=by
 obtain⟨W0,hW0,HW0,b0,HX0⟩:=st0 w (n8 5 m a b g n ta tl tc ka kl kc) 25
 have HB0:Hid (Below w.heap.size w W0):=b0
 have CB:=prop_d 5 m a b g n ta tl tc ka kl kc W0 hn
 obtain⟨R,hR⟩:∃R,((bareB m a b g n tl kl 0 0 0 g n 0)&&propD n)=R:=⟨_,rfl⟩
 rw[hR]at CB⊢
 clear hR hW0 b0 hn
 go_enter Tryz.func29,Tryz.ntmps29
 go_upto_region 1 with fail
 rw[HW0.out]
 clear HW0
 have x0:=HX0.out.cell 0 (u:=.int .i64 5) rfl
 obtain⟨-,x1,x2,x3,x4,x5,x6,x7⟩:=at8c HX0.out
 go_wp2_with fail
 refine CB.mono ?_
 rintro e w1⟨rfl,b1⟩
 have HB1:Hid (Below w.heap.size w w1):=HB0.out.trans (below_less b1 HB0.out.size)
 clear CB b1 x0 x1 x2 x3 x4 x5 x6 x7 HX0 HB0
 go_wp2
 go_ret
 exact⟨rfl,HB1.out⟩
theorem part_3(m a b:Int)(g:Bool)(n:ByteArray)(ta:Option Addr)(tl tc:Nat)(ka:Option Addr)(kl kc:Nat)(w:World)(pb:Nat)(d:Int)(R:Bool)(h0:0≤d)(h1:d≤50)(C:Hid (∀W,Below w.heap.size w W→Calls Tryz.prog 34 #[.agg (n8 3 m a b g n ta tl tc ka kl kc),.int .i64 (d+1)] W fun e w'=>e=.returned (.bool R)∧Below W.heap.size W w')):
  Calls Tryz.prog 29 #[.pointer (some ⟨pb,0,none⟩),.agg (n8 3 m a b g n ta tl tc ka kl kc),.int .i64 d] w fun e w'=>e=.returned (.bool R)∧Below w.heap.size w w':=by
 obtain⟨W0,hW0,HW0,b0,HX0⟩:=st0 w (n8 3 m a b g n ta tl tc ka kl kc) 25
 have HB0:Hid (Below w.heap.size w W0):=b0
 have CB:=C.out W0 b0
 clear hW0 b0
 go_enter Tryz.func29,Tryz.ntmps29
 go_upto_region 1 with fail
 rw[HW0.out]
 clear HW0
 have x0:=HX0.out.cell 0 (u:=.int .i64 3) rfl
 obtain⟨-,x1,x2,x3,x4,x5,x6,x7⟩:=at8c HX0.out
 go_wp2_with fail
 refine CB.mono ?_
 rintro e w1⟨rfl,b1⟩
 have HB1:Hid (Below w.heap.size w w1):=HB0.out.trans (below_less b1 HB0.out.size)
 clear CB b1 x0 x1 x2 x3 x4 x5 x6 x7 HX0 HB0
 go_wp2
 go_ret
 exact⟨rfl,HB1.out⟩
theorem part_0(k:Int)(m a b:Int)(g:Bool)(n:ByteArray)(ta:Option Addr)(tl tc:Nat)(ka:Option Addr)(kl kc:Nat)(w:World)(pb:Nat)(d:Int)(h1:¬k=1)(h2:¬k=2)(h14:¬k=14)(h3:¬k=3)(h5:¬k=5)(h12:¬k=12)(h13:¬k=13)(h8:¬k=8)(h9:¬k=9)(h10:¬k=10)(h11:¬k=11):
  Calls Tryz.prog 29 #[.pointer (some ⟨pb,0,none⟩),.agg (n8 k m a b g n ta tl tc ka kl kc),.int .i64 d] w fun e w'=>e=.returned (.bool false)∧Below w.heap.size w w':=by
 obtain⟨W0,hW0,HW0,b0,HX0⟩:=st0 w (n8 k m a b g n ta tl tc ka kl kc) 25
 have HB0:Hid (Below w.heap.size w W0):=b0
 clear hW0 b0
 have z1:(k==1)=false:=by simp[h1]
 have z2:(k==2)=false:=by simp[h2]
 have z14:(k==14)=false:=by simp[h14]
 have z3:(k==3)=false:=by simp[h3]
 have z5:(k==5)=false:=by simp[h5]
 have z12:(k==12)=false:=by simp[h12]
 have z13:(k==13)=false:=by simp[h13]
 have z8:(k==8)=false:=by simp[h8]
 have z9:(k==9)=false:=by simp[h9]
 have z10:(k==10)=false:=by simp[h10]
 have z11:(k==11)=false:=by simp[h11]
 go_enter Tryz.func29,Tryz.ntmps29
 go_upto_region 1 with fail
 rw[HW0.out]
 clear HW0
 have x0:=HX0.out.cell 0 (u:=.int .i64 k) rfl
 obtain⟨-,x1,x2,x3,x4,x5,x6,x7⟩:=at8c HX0.out
 go_wp2
 go_ret
 exact⟨rfl,HB0.out⟩
theorem part_13(m a b:Int)(g:Bool)(n:ByteArray)(ta:Option Addr)(tl tc:Nat)(ka:Option Addr)(kl kc:Nat)(w:World)(pb:Nat)(G:Int)(v:Value)(d:Int)(hb:Bk w pb #[.int .i64 G,v] 42):
  Calls Tryz.prog 29 #[.pointer (some ⟨pb,0,none⟩),.agg (n8 13 m a b g n ta tl tc ka kl kc),.int .i64 d] w fun e w'=>e=.returned (.bool ((bareB m a b g n tl kl 0 a 0 false ⟨#[]⟩ 0)&&(decide (1≤a)&&decide (a≤G))))∧Below w.heap.size w w':=by
 obtain⟨W0,hW0,HW0,b0,HX0⟩:=st0 w (n8 13 m a b g n ta tl tc ka kl kc) 25
 have HB0:Hid (Below w.heap.size w W0):=b0
 have HKG:Hid (Bk W0 pb #[.int .i64 G,v] 42):=hb.on b0
 have HSd:Hid (∀w',Below W0.heap.size W0 w'→w'.cell? ⟨pb,0,none⟩=some (.int .i64 G)∧w'.cell? ⟨w.heap.size,0,none⟩=some (.int .i64 13)∧w'.cell? ⟨w.heap.size,1,none⟩=some (.int .i64 m)∧w'.cell? ⟨w.heap.size,2,none⟩=some (.int .i64 a)∧w'.cell? ⟨w.heap.size,3,none⟩=some (.int .i64 b)∧w'.cell? ⟨w.heap.size,4,none⟩=some (.bool g)∧w'.cell? ⟨w.heap.size,5,none⟩=some (.string n)∧w'.cell? ⟨w.heap.size,6,none⟩=some (.slice ta tl tc)∧w'.cell? ⟨w.heap.size,7,none⟩=some (.slice ka kl kc)):=fun w' d=>⟨(HKG.out.on d).cell 0 rfl,at8c (HX0.out.on d)⟩
 have HCB:Hid (∀W,Calls Tryz.prog 24 _ W _):=fun W=>bare_any 13 m a b g n ta tl tc ka kl kc 0 0 a 0 false ⟨#[]⟩ none 0 0 none 0 0 W
 obtain⟨R,hR⟩:∃R,(bareB m a b g n tl kl 0 a 0 false ⟨#[]⟩ 0)=R:=⟨_,rfl⟩
 rw[hR]at HCB⊢
 clear hR hW0 b0 hb
 go_enter Tryz.func29,Tryz.ntmps29
 go_upto_region 1 with fail
 rw[HW0.out]
 clear HW0
 have x0:=HX0.out.cell 0 (u:=.int .i64 13) rfl
 obtain⟨-,x1,x2,x3,x4,x5,x6,x7⟩:=at8c HX0.out
 go_upto_region 14 with fail
 refine lin.UH.begin (S:=fun w'=>w'.cell? ⟨pb,0,none⟩=some (.int .i64 G)∧w'.cell? ⟨w.heap.size,0,none⟩=some (.int .i64 13)∧w'.cell? ⟨w.heap.size,1,none⟩=some (.int .i64 m)∧w'.cell? ⟨w.heap.size,2,none⟩=some (.int .i64 a)∧w'.cell? ⟨w.heap.size,3,none⟩=some (.int .i64 b)∧w'.cell? ⟨w.heap.size,4,none⟩=some (.bool g)∧w'.cell? ⟨w.heap.size,5,none⟩=some (.string n)∧w'.cell? ⟨w.heap.size,6,none⟩=some (.slice ta tl tc)∧w'.cell? ⟨w.heap.size,7,none⟩=some (.slice ka kl kc)) (by kernel_rfl) (HSd.out _ (Below.refl _ _).drew) (fun hHeld=>?_)
 iterate 4
  (refine lin.UH.take (v:=?_) rfl (by kernel_rfl) (fun _ _ _ h=>h) (by rfl) ?_ (by assumption) ?_;rotate_left;(focus(intro w' hSw;(try dsimp only at hSw);go_simp;try with_reducible rfl));(try simp only[Act.put,lin.sm]))
 obtain⟨Wd,hWd⟩:∃Wd,W0.drew=Wd:=⟨_,rfl⟩
 have HBd:Hid (Below W0.heap.size W0 Wd):=by unfold Hid;rw[←hWd];exact(Below.refl _ _).drew
 rw[hWd]at hHeld⊢
 clear hWd x0 x1 x2 x3 x4 x5 x6 x7
 have CC:=HCB.out Wd
 refine lin.UH.one (by kernel_rfl) rfl (fun K hK=>?_)
 go_simp
 refine CC.mono ?_
 rintro e w1⟨rfl,b1⟩
 have HB01:Hid (Below W0.heap.size W0 w1):=HBd.out.trans (below_less b1 HBd.out.size)
 have HB1:Hid (Below w.heap.size w w1):=HB0.out.trans (below_less HB01.out HB0.out.size)
 refine hK.out _ _ (HSd.out _ HB01.out) (fun hHeld=>?_)
 clear hK K CC b1 HCB HBd HB0 HX0 HKG
 try simp only[Act.put,lin.sm]
 cases R with
 |false=>
  have HQ:Hid ((false&&(decide (1≤a)&&decide (a≤G)))=false):=rfl
  iterate 15
   first
   |(refine lin.UH.take (v:=?_) rfl (by kernel_rfl) (fun _ _ _ h=>h) (by rfl) ?_ (by assumption) ?_;rotate_left;(focus(intro w' hSw;(try dsimp only at hSw);go_simp;try with_reducible rfl));(try simp only[Act.put,lin.sm]))
   |(refine lin.UH.skip rfl (by kernel_rfl) (fun _ _ _ h=>h) (by kernel_rfl) (by assumption) ?_;(try simp only[Act.put,lin.sm]))
  refine lin.UH.fin (by kernel_rfl) ?_
  go_wp2
  go_ret
  exact⟨rt_bool (by first|exact HQ.out.symm|simp[h1,h2]),HB1.out⟩
 |true=>
  by_cases h1:1≤a
  ·by_cases h2:a≤G
   ·have HQ:Hid ((true&&(decide (1≤a)&&decide (a≤G)))=true):=by unfold Hid;simp[h1,h2]
    iterate 15
     first
     |(refine lin.UH.take (v:=?_) rfl (by kernel_rfl) (fun _ _ _ h=>h) (by rfl) ?_ (by assumption) ?_;rotate_left;(focus(intro w' hSw;(try dsimp only at hSw);go_simp;try with_reducible rfl));(try simp only[Act.put,lin.sm]))
     |(refine lin.UH.skip rfl (by kernel_rfl) (fun _ _ _ h=>h) (by kernel_rfl) (by assumption) ?_;(try simp only[Act.put,lin.sm]))
    refine lin.UH.fin (by kernel_rfl) ?_
    go_wp2
    go_ret
    exact⟨rt_bool (by first|exact HQ.out.symm|simp[h1,h2]),HB1.out⟩
   ·have HQ:Hid ((true&&(decide (1≤a)&&decide (a≤G)))=false):=by unfold Hid;simp[h2]
    have h3:G<a:=by omega
    iterate 15
     first
     |(refine lin.UH.take (v:=?_) rfl (by kernel_rfl) (fun _ _ _ h=>h) (by rfl) ?_ (by assumption) ?_;rotate_left;(focus(intro w' hSw;(try dsimp only at hSw);go_simp;try with_reducible rfl));(try simp only[Act.put,lin.sm]))
     |(refine lin.UH.skip rfl (by kernel_rfl) (fun _ _ _ h=>h) (by kernel_rfl) (by assumption) ?_;(try simp only[Act.put,lin.sm]))
    refine lin.UH.fin (by kernel_rfl) ?_
    go_wp2
    go_ret
    exact⟨rt_bool (by first|exact HQ.out.symm|simp[h1,h2]),HB1.out⟩
  ·have HQ:Hid ((true&&(decide (1≤a)&&decide (a≤G)))=false):=by unfold Hid;simp[h1]
   have h3:a<1:=by omega
   iterate 15
    first
    |(refine lin.UH.take (v:=?_) rfl (by kernel_rfl) (fun _ _ _ h=>h) (by rfl) ?_ (by assumption) ?_;rotate_left;(focus(intro w' hSw;(try dsimp only at hSw);go_simp;try with_reducible rfl));(try simp only[Act.put,lin.sm]))
    |(refine lin.UH.skip rfl (by kernel_rfl) (fun _ _ _ h=>h) (by kernel_rfl) (by assumption) ?_;(try simp only[Act.put,lin.sm]))
   refine lin.UH.fin (by kernel_rfl) ?_
   go_wp2
   go_ret
   exact⟨rt_bool (by first|exact HQ.out.symm|simp[h1,h2]),HB1.out⟩
end Go.Proofs.YtbbeciofgnkggaaGreatDoor.tre
