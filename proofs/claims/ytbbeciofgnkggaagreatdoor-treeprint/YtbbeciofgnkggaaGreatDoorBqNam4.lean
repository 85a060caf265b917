import Derived.Test.YtbbeciofgnkggaaGreatDoorBqNam3
set_option linter.unusedSimpArgs false
set_option linter.unusedVariables false
set_option maxRecDepth 100000
set_option maxHeartbeats 2000000
namespace Go.Proofs.YtbbeciofgnkggaaGreatDoor.nam
open Go.RowKit lin
def rnumL(k:List UInt8):Int:=if k=[103,99]then 1 else if k=[115,99]then 2 else 3
theorem rnumber_any(k:List UInt8)(w:World):Calls Tryz.prog 84 #[.string (BA k)] w fun e w'=>e=.returned (.int .i64 (rnumL k))∧w'=w:=by
 by_cases h1:k=[103,99]
 ·have t1:=beqT h1
  have HE:Hid (rnumL k=1):=by unfold Hid rnumL;rw[if_pos h1]
  clear h1
  go_enter Tryz.func84,Tryz.ntmps84
  go_wp2
  go_ret
  exact⟨by rw[HE.out];rfl,rfl⟩
 ·have t1:=beqF h1
  by_cases h2:k=[115,99]
  ·have t2:=beqT h2
   have HE:Hid (rnumL k=2):=by unfold Hid rnumL;rw[if_neg h1,if_pos h2]
   clear h1 h2
   go_enter Tryz.func84,Tryz.ntmps84
   go_wp2
   go_ret
   exact⟨by rw[HE.out];rfl,rfl⟩
  ·have t2:=beqF h2
   have HE:Hid (rnumL k=3):=by unfold Hid rnumL;rw[if_neg h1,if_neg h2]
   clear h1 h2
   go_enter Tryz.func84,Tryz.ntmps84
   go_wp2
   go_ret
   exact⟨by rw[HE.out];rfl,rfl⟩
theorem rnum_pr{r:R3}(h:r∈rowsL)(h1:r.1=[112,114]):rnumL r.2.1=numL r.2.1:=by
 rcases rows_pr r h h1 with e|e<;>rw[e]<;>rfl
theorem resolve0(s:ByteArray)(h:markI s=-1):resolveV s=aloneL (looseL s.data.toList):=by unfold resolveV;rw[if_pos (by rw[h];decide)]
theorem resolve1(s:ByteArray)(p:Nat)(h:markI s=p):resolveV s=bothL (s.data.toList.take p) (s.data.toList.drop (p+1)):=by unfold resolveV;rw[h,if_neg (by omega)];rfl
theorem nilT(l:List UInt8)(h:l=[]):(BA l).toList.isEmpty=true:=by rw[h,Lib.toList_data];rfl
theorem nilF(l:List UInt8)(h:¬l=[]):(BA l).toList.isEmpty=false:=by
 rw[Lib.toList_data,BA_data]
 cases l with
 |nil=>exact absurd rfl h
 |cons _ _=>rfl
theorem rresolve_any(s:ByteArray)(w:World)(hs:s.size≤140737488355327):
  Calls Tryz.prog 67 #[.string s] w fun e w'=>e=.returned (.tuple #[.int .i64 (resolveV s).1,.string (BA (resolveV s).2.1),.int .i64 (resolveV s).2.2])∧Below w.heap.size w w':=by
 have R0:Hid (markI s=-1→resolveV s=aloneL (looseL s.data.toList)):=resolve0 s
 have R1:Hid (∀p:Nat,markI s=p→resolveV s=bothL (s.data.toList.take p) (s.data.toList.drop (p+1))):=resolve1 s
 have HV:Hid (∀W(k v:List UInt8),v.length≤140737488355327→Calls Tryz.prog 83 #[.string (BA k),.string (BA v)] W fun e w'=>e=.returned (.string (BA (shortL (lookL (k,looseL v)))))∧Below W.heap.size W w'):=fun W k v hv=>value_any k v W hv
 generalize resolveV s=res at*
 go_enter Tryz.func67,Tryz.ntmps67
 go_wp2
 go_loopw[5](fun i wr=>∃p:Nat,p≤s.size∧i=.int .i64 p∧Hid (∀j,j<p→j<s.size→¬mk s j)∧wr=w)(fun i _=>s.size-(RowKit.intOf i).toNat)
 case atStart=>exact⟨0,Nat.zero_le _,rfl,fun j h=>absurd h (Nat.not_lt_zero _),rfl⟩
 case round=>
  obtain⟨p,hp,rfl,HN,hz⟩:=hrel
  subst hz
  by_cases hlt:p<s.size
  ·have hlt':(p:Int)<(s.size:Int):=by omega
   have he:=at8_eq s p hlt
   by_cases hm:mk s p
   ·have HE:Hid (res=bothL (s.data.toList.take p) (s.data.toList.drop (p+1))):=R1.out p (mark_hit s p hlt HN.out hm)
    have x1:=ext_take s p
    have x2:=ext_drop s (p+1)
    have hl1:(s.data.toList.take p).length≤s.size:=by rw[List.length_take,size_list];omega
    have hl2:(s.data.toList.drop (p+1)).length≤s.size:=by rw[List.length_drop,size_list];omega
    generalize s.data.toList.take p=P at*
    generalize s.data.toList.drop (p+1)=V at*
    have hm2:((s[p]'hlt).toNat:Int)=61∨((s[p]'hlt).toNat:Int)=58:=by unfold mk at hm;rw[he]at hm;exact hm
    have HM:Hid (((s[p]'hlt).toNat:Int)=61∨((s[p]'hlt).toNat:Int)=58):=hm2
    have HVP:=HV.out wr [112,114] P (by omega)
    have HB0:Hid (lookL ([112,114],looseL P)=none→res=(0,[],50)):=fun h=>HE.out.trans (both0 h)
    have HB1:Hid (∀r,lookL ([112,114],looseL P)=some r→lookL (r.2.1,looseL V)=none→res=(0,[],51)):=fun r h h2=>HE.out.trans (both1 h h2)
    have HB2:Hid (∀r q,lookL ([112,114],looseL P)=some r→lookL (r.2.1,looseL V)=some q→res=(rnumL r.2.1,q.2.1,0)):=fun r q h h2=>by
     rw[HE.out,both2 h h2,rnum_pr (look_mem h).1 (look_mem h).2]
    have hp2:(p:Int)+1≤(s.size:Int):=by omega
    have hp3:(0:Int)≤(p:Int)+1:=by omega
    have hp4:(p:Int)≤(s.size:Int):=by omega
    clear HE hm hm2 he HN R0 R1
    rcases HM.out with hr0|hr0
    ·clear HM
     go_wp2_with fail
     refine HVP.mono ?_
     rintro e w1⟨rfl,hb1⟩
     have hs1:=hb1.size
     clear HVP
     cases hlk:lookL ([112,114],looseL P)with
     |none=>
      have HE:Hid (res=(0,[],50)):=HB0.out hlk
      have t1:(BA (shortL none)).toList.isEmpty=true:=nilT [] rfl
      clear hlk HB0 HB1 HB2
      generalize shortL none=sn at*
      go_wp2
      go_ret3
      exact⟨by rw[HE.out];rfl,hb1⟩
     |some r=>
      have t1:(BA (shortL (some r))).toList.isEmpty=false:=nilF r.2.1 (rows_short r (look_mem hlk).1)
      have HV2:=HV.out w1 (shortL (some r)) V (by omega)
      have N2:=fun W=>rnumber_any (shortL (some r)) W
      have HB3:Hid (lookL (shortL (some r),looseL V)=none→res=(0,[],51)):=HB1.out r hlk
      have HB4:Hid (∀q,lookL (shortL (some r),looseL V)=some q→res=(rnumL (shortL (some r)),q.2.1,0)):=fun q h=>HB2.out r q hlk h
      clear hlk HB0 HB1 HB2
      generalize shortL (some r)=sn at*
      go_wp2_with fail
      refine HV2.mono ?_
      rintro e w2⟨rfl,hb2⟩
      have b2:=hb1.trans (hb2.mono hs1)
      clear HV2 hb2
      cases hlq:lookL (sn,looseL V)with
      |none=>
       have HE:Hid (res=(0,[],51)):=HB3.out hlq
       have t2:(BA (shortL none)).toList.isEmpty=true:=nilT [] rfl
       clear hlq HB3 HB4 N2
       generalize shortL none=qn at*
       go_wp2
       go_ret3
       exact⟨by rw[HE.out];rfl,b2⟩
      |some q=>
       have HE:Hid (res=(rnumL sn,shortL (some q),0)):=HB4.out q hlq
       have t2:(BA (shortL (some q))).toList.isEmpty=false:=nilF q.2.1 (rows_short q (look_mem hlq).1)
       have N3:=N2 w2
       clear hlq HB3 HB4 N2
       generalize shortL (some q)=qn at*
       go_wp2_with fail
       refine N3.mono ?_
       rintro e w3⟨rfl,hw3⟩
       rw[hw3]
       clear hw3
       go_wp2
       go_ret3
       exact⟨by rw[HE.out];rfl,b2⟩
    ·clear HM
     go_wp2_with fail
     refine HVP.mono ?_
     rintro e w1⟨rfl,hb1⟩
     have hs1:=hb1.size
     clear HVP
     cases hlk:lookL ([112,114],looseL P)with
     |none=>
      have HE:Hid (res=(0,[],50)):=HB0.out hlk
      have t1:(BA (shortL none)).toList.isEmpty=true:=nilT [] rfl
      clear hlk HB0 HB1 HB2
      generalize shortL none=sn at*
      go_wp2
      go_ret3
      exact⟨by rw[HE.out];rfl,hb1⟩
     |some r=>
      have t1:(BA (shortL (some r))).toList.isEmpty=false:=nilF r.2.1 (rows_short r (look_mem hlk).1)
      have HV2:=HV.out w1 (shortL (some r)) V (by omega)
      have N2:=fun W=>rnumber_any (shortL (some r)) W
      have HB3:Hid (lookL (shortL (some r),looseL V)=none→res=(0,[],51)):=HB1.out r hlk
      have HB4:Hid (∀q,lookL (shortL (some r),looseL V)=some q→res=(rnumL (shortL (some r)),q.2.1,0)):=fun q h=>HB2.out r q hlk h
      clear hlk HB0 HB1 HB2
      generalize shortL (some r)=sn at*
      go_wp2_with fail
      refine HV2.mono ?_
      rintro e w2⟨rfl,hb2⟩
      have b2:=hb1.trans (hb2.mono hs1)
      clear HV2 hb2
      cases hlq:lookL (sn,looseL V)with
      |none=>
       have HE:Hid (res=(0,[],51)):=HB3.out hlq
       have t2:(BA (shortL none)).toList.isEmpty=true:=nilT [] rfl
       clear hlq HB3 HB4 N2
       generalize shortL none=qn at*
       go_wp2
       go_ret3
       exact⟨by rw[HE.out];rfl,b2⟩
      |some q=>
       have HE:Hid (res=(rnumL sn,shortL (some q),0)):=HB4.out q hlq
       have t2:(BA (shortL (some q))).toList.isEmpty=false:=nilF q.2.1 (rows_short q (look_mem hlq).1)
       have N3:=N2 w2
       clear hlq HB3 HB4 N2
       generalize shortL (some q)=qn at*
       go_wp2_with fail
       refine N3.mono ?_
       rintro e w3⟨rfl,hw3⟩
       rw[hw3]
       clear hw3
       go_wp2
       go_ret3
       exact⟨by rw[HE.out];rfl,b2⟩
   ·have hm2:¬(((s[p]'hlt).toNat:Int)=61∨((s[p]'hlt).toNat:Int)=58):=by unfold mk at hm;rw[he]at hm;exact hm
    have t1:(((s[p]'hlt).toNat:Int)==61)=false:=by rw[beq_eq_false_iff_ne];exact fun h=>hm2 (.inl h)
    have t2:(((s[p]'hlt).toNat:Int)==58)=false:=by rw[beq_eq_false_iff_ne];exact fun h=>hm2 (.inr h)
    have t3:(((s[p]'hlt).toNat:Int)!=61)=true:=by rw[bne,t1];rfl
    have t4:(((s[p]'hlt).toNat:Int)!=58)=true:=by rw[bne,t2];rfl
    have HN2:Hid (∀j,j<p+1→j<s.size→¬mk s j):=fun j h1 h2=>by
     rcases Nat.lt_or_ge j p with h3|h3
     ·exact HN.out j h3 h2
     ·obtain rfl:j=p:=by omega
      exact hm
    clear hm hm2 he HN
    generalize hr:((s[p]'hlt).toNat:Int)=r at*
    go_wp2
    exact⟨⟨p+1,by omega,by go_num,HN2,by trivial⟩,by simp[Go.RowKit.intOf];omega⟩
  ·have hge:¬(p:Int)<(s.size:Int):=by omega
   have HE:Hid (res=aloneL (looseL s.data.toList)):=R0.out (mark_none s (fun j hj=>HN.out j (by omega) hj))
   have HVS:Hid (∀W(k:List UInt8),Calls Tryz.prog 83 #[.string (BA k),.string s] W fun e w'=>e=.returned (.string (BA (shortL (lookL (k,looseL s.data.toList)))))∧Below W.heap.size W w'):=fun W k=>HV.out W k s.data.toList (by rw[size_list];omega)
   have A1:Hid (∀r,lookL ([103,99],looseL s.data.toList)=some r→res=(1,r.2.1,0)):=fun r h=>HE.out.trans (alone1 h)
   have A2:Hid (∀r,lookL ([103,99],looseL s.data.toList)=none→lookL ([98,105],looseL s.data.toList)=some r→res=(3,r.2.1,0)):=fun r h h2=>HE.out.trans (alone2 h h2)
   have A3:Hid (∀r,lookL ([103,99],looseL s.data.toList)=none→lookL ([98,105],looseL s.data.toList)=none→lookL ([115,99],looseL s.data.toList)=some r→res=(2,r.2.1,0)):=fun r h h2 h3=>HE.out.trans (alone3 h h2 h3)
   have A4:Hid (lookL ([103,99],looseL s.data.toList)=none→lookL ([98,105],looseL s.data.toList)=none→lookL ([115,99],looseL s.data.toList)=none→res=(0,[],50)):=fun h h2 h3=>HE.out.trans (alone4 h h2 h3)
   have N1:Hid (∀W,Calls Tryz.prog 84 #[.string ⟨#[103,99]⟩] W fun e w'=>e=.returned (.int .i64 1)∧w'=W):=fun W=>rnumber_any [103,99] W
   have N2:Hid (∀W,Calls Tryz.prog 84 #[.string ⟨#[98,105]⟩] W fun e w'=>e=.returned (.int .i64 3)∧w'=W):=fun W=>rnumber_any [98,105] W
   have N3:Hid (∀W,Calls Tryz.prog 84 #[.string ⟨#[115,99]⟩] W fun e w'=>e=.returned (.int .i64 2)∧w'=W):=fun W=>rnumber_any [115,99] W
   clear HE HN R0 R1 HV
   generalize looseL s.data.toList=l at*
   go_wp2
   obtain⟨W0,hW0⟩:∃W0,wr.alloc (.cells #[.string ⟨#[103,99]⟩,.string ⟨#[98,105]⟩,.string ⟨#[115,99]⟩] 9)=W0:=⟨_,rfl⟩
   have bw0:Below wr.heap.size wr W0:=by rw[←hW0];exact(Below.refl _ _).alloc (Nat.le_refl _) _
   have nb0:W0.heap[wr.heap.size]?=some (.cells #[.string ⟨#[103,99]⟩,.string ⟨#[98,105]⟩,.string ⟨#[115,99]⟩] 9 (0,0)):=by rw[←hW0];exact World.alloc_heap_new _ _
   rw[hW0]
   clear hW0
   have hw0:=bw0.size
   have hlt0:=(Array.getElem?_eq_some_iff.1 nb0).1
   have HCE:Hid (∀W,Below W0.heap.size W0 W→W.cell? ⟨wr.heap.size,0,none⟩=some (.string ⟨#[103,99]⟩)∧W.cell? ⟨wr.heap.size,1,none⟩=some (.string ⟨#[98,105]⟩)∧W.cell? ⟨wr.heap.size,2,none⟩=some (.string ⟨#[115,99]⟩)):=fun W hb=>by
    have h:=(hb.block _ hlt0).trans nb0
    exact⟨cell_of_row W _ 0 _ _ _ h,cell_of_row W _ 1 _ _ _ h,cell_of_row W _ 2 _ _ _ h⟩
   clear nb0
   go_loopw[46](fun i wz=>∃k:Nat,k≤3∧i=.int .i64 k∧Hid (noneTo l k)∧Below W0.heap.size W0 wz)(fun i _=>3-(RowKit.intOf i).toNat)
   case atStart=>exact⟨0,by omega,rfl,⟨fun h=>absurd h (by omega),fun h=>absurd h (by omega),fun h=>absurd h (by omega)⟩,Below.refl _ _⟩
   case round=>
    obtain⟨k,hk,rfl,HP,hbel⟩:=hrel
    obtain⟨c0,c1,c2⟩:=HCE.out _ hbel
    have hbs:=hbel.size
    rcases(show k=0∨k=1∨k=2∨k=3 by omega)with rfl|rfl|rfl|rfl
    ·have HV1:Calls Tryz.prog 83 #[.string ⟨#[103,99]⟩,.string s] _ fun e w'=>e=.returned (.string (BA (shortL (lookL ([103,99],l)))))∧Below _ _ w':=HVS.out wr [103,99]
     go_wp2_with fail
     refine HV1.mono ?_
     rintro e w1⟨rfl,hb1⟩
     have b1:=hbel.trans (hb1.mono hbs)
     clear HV1 hb1
     cases hlk:lookL ([103,99],l)with
     |none=>
      have HP2:Hid (noneTo l 1):=⟨fun _=>hlk,fun h=>absurd h (by omega),fun h=>absurd h (by omega)⟩
      have t1:(BA (shortL none)).toList.isEmpty=true:=nilT [] rfl
      clear hlk HP
      generalize shortL none=sn at*
      go_wp2
      exact⟨⟨1,by omega,rfl,HP2,b1⟩,by simp[Go.RowKit.intOf]⟩
     |some r=>
      have HE:Hid (res=(1,shortL (some r),0)):=A1.out r hlk
      have t1:(BA (shortL (some r))).toList.isEmpty=false:=nilF r.2.1 (rows_short r (look_mem hlk).1)
      have HBB:=bw0.trans (b1.mono hw0)
      clear hlk HP
      generalize shortL (some r)=sn at*
      go_wp2_with fail
      refine(N1.out _).mono ?_
      rintro e w3⟨rfl,hw3⟩
      rw[hw3]
      clear hw3
      go_wp2
      go_ret3
      exact⟨by rw[HE.out];rfl,HBB⟩
    ·have HV1:Calls Tryz.prog 83 #[.string ⟨#[98,105]⟩,.string s] _ fun e w'=>e=.returned (.string (BA (shortL (lookL ([98,105],l)))))∧Below _ _ w':=HVS.out wr [98,105]
     go_wp2_with fail
     refine HV1.mono ?_
     rintro e w1⟨rfl,hb1⟩
     have b1:=hbel.trans (hb1.mono hbs)
     clear HV1 hb1
     cases hlk:lookL ([98,105],l)with
     |none=>
      have HP2:Hid (noneTo l 2):=⟨fun _=>HP.out.1 (by omega),fun _=>hlk,fun h=>absurd h (by omega)⟩
      have t1:(BA (shortL none)).toList.isEmpty=true:=nilT [] rfl
      clear hlk HP
      generalize shortL none=sn at*
      go_wp2
      exact⟨⟨2,by omega,rfl,HP2,b1⟩,by simp[Go.RowKit.intOf]⟩
     |some r=>
      have HE:Hid (res=(3,shortL (some r),0)):=A2.out r (HP.out.1 (by omega)) hlk
      have t1:(BA (shortL (some r))).toList.isEmpty=false:=nilF r.2.1 (rows_short r (look_mem hlk).1)
      have HBB:=bw0.trans (b1.mono hw0)
      clear hlk HP
      generalize shortL (some r)=sn at*
      go_wp2_with fail
      refine(N2.out _).mono ?_
      rintro e w3⟨rfl,hw3⟩
      rw[hw3]
      clear hw3
      go_wp2
      go_ret3
      exact⟨by rw[HE.out];rfl,HBB⟩
    ·have HV1:Calls Tryz.prog 83 #[.string ⟨#[115,99]⟩,.string s] _ fun e w'=>e=.returned (.string (BA (shortL (lookL ([115,99],l)))))∧Below _ _ w':=HVS.out wr [115,99]
     go_wp2_with fail
     refine HV1.mono ?_
     rintro e w1⟨rfl,hb1⟩
     have b1:=hbel.trans (hb1.mono hbs)
     clear HV1 hb1
     cases hlk:lookL ([115,99],l)with
     |none=>
      have HP2:Hid (noneTo l 3):=⟨fun _=>HP.out.1 (by omega),fun _=>HP.out.2.1 (by omega),fun _=>hlk⟩
      have t1:(BA (shortL none)).toList.isEmpty=true:=nilT [] rfl
      clear hlk HP
      generalize shortL none=sn at*
      go_wp2
      exact⟨⟨3,by omega,rfl,HP2,b1⟩,by simp[Go.RowKit.intOf]⟩
     |some r=>
      have HE:Hid (res=(2,shortL (some r),0)):=A3.out r (HP.out.1 (by omega)) (HP.out.2.1 (by omega)) hlk
      have t1:(BA (shortL (some r))).toList.isEmpty=false:=nilF r.2.1 (rows_short r (look_mem hlk).1)
      have HBB:=bw0.trans (b1.mono hw0)
      clear hlk HP
      generalize shortL (some r)=sn at*
      go_wp2_with fail
      refine(N3.out _).mono ?_
      rintro e w3⟨rfl,hw3⟩
      rw[hw3]
      clear hw3
      go_wp2
      go_ret3
      exact⟨by rw[HE.out];rfl,HBB⟩
    ·have HE:Hid (res=(0,[],50)):=A4.out (HP.out.1 (by omega)) (HP.out.2.1 (by omega)) (HP.out.2.2 (by omega))
     have HBB:=bw0.trans (hbel.mono hw0)
     go_wp2
     go_ret3
     exact⟨by rw[HE.out];rfl,HBB⟩
end Go.Proofs.YtbbeciofgnkggaaGreatDoor.nam
