import Derived.Test.YtbbeciofgnkggaaGreatDoorBqLin2
import Derived.Test.YtbbeciofgnkggaaGreatDoorBqLin1
import Derived.WalkSmall
import Derived.Deep.LoopGhost
import Derived.Lib.OthersKept
import Derived.Maps.AppendAt
import Derived.Shelf.Abstract
import Derived.Shelf.RegionOpen
import Derived.WalkKit
import Derived.OwnWalkIn
import Derived.TacticsInMore
import Derived.LoopNIn
import Derived.LoopIn
import Derived.Sort.LoopGhostIn
set_option linter.unusedSimpArgs false
set_option linter.unusedVariables false
set_option maxRecDepth 100000
set_option maxHeartbeats 2000000
namespace Go.Proofs.YtbbeciofgnkggaaGreatDoor.lin
open Go.RowKit
theorem blank_iff(x:UInt8):blank x=((x.toNat:Int)==32||(x.toNat:Int)==9):=by
 by_cases h1:x=32
 ·subst h1;rfl
 ·by_cases h2:x=9
  ·subst h2;rfl
  ·have e1:((x.toNat:Int)==32)=false:=by
    rw[beq_eq_false_iff_ne];intro e;exact h1 (UInt8.toNat_inj.1 (by have:(32:UInt8).toNat=32:=rfl;omega))
   have e2:((x.toNat:Int)==9)=false:=by
    rw[beq_eq_false_iff_ne];intro e;exact h2 (UInt8.toNat_inj.1 (by have:(9:UInt8).toNat=9:=rfl;omega))
   rw[e1,e2]
   simp[blank,h1,h2]
theorem list_head(t:ByteArray)(h:0<t.size):t.data.toList=t[0]'h::t.data.toList.drop 1:=by
 have:=drop_cons t 0 h
 rwa[List.drop_zero]at this
theorem ext_tail(t:ByteArray)(h:0<t.size):(t.extract 1 t.size).data.toList=t.data.toList.drop 1:=by
 rw[ext_list,BA_data,List.take_of_length_le]
 rw[List.length_drop,size_list];omega
theorem trimL_self(l:List UInt8)(h1:∀x,l.head?=some x→blank x=false)(h2:∀x,l.getLast?=some x→blank x=false):trimL l=l:=by
 rw[trimL_eq,dw_id l.reverse (by rw[List.head?_reverse];exact h2),List.reverse_reverse,dw_id l h1]
theorem rtrim_any(s:ByteArray)(w:World)(hs:s.size≤1099511627776):
  Calls Tryz.prog 131 #[.string s] w fun e w'=>e=.returned (.string (trim s))∧w'=w:=by
 have HR:Hid (trim s=BA (trimL s.data.toList)):=rfl
 go_enter Tryz.func131,Tryz.ntmps131
 go_wp2
 go_loopg[0]s.size(fun k v wr=>∃t:ByteArray,v=.string t∧k=t.size∧t.size≤s.size∧Hid (trimL t.data.toList=trimL s.data.toList)∧wr=w)
 case atStart=>exact⟨s,rfl,rfl,Nat.le_refl _,rfl,rfl⟩
 case round=>
  obtain⟨t,rfl,hgk,hts,HT,rfl⟩:=hrel
  have HGK:Hid (gk=t.size):=hgk
  clear hgk
  by_cases h0:0<t.size
  ·have hb:=blank_iff (t[0]'h0)
   by_cases hbl:blank (t[0]'h0)=true
   ·have HT2:Hid (trimL (t.extract 1 t.size).data.toList=trimL s.data.toList):=by
     rw[Hid,ext_tail t h0,←HT.out,list_head t h0,trimL_cons _ _ hbl,List.drop_one,List.tail_cons]
    have HS:Hid ((t.extract 1 t.size).size=t.size-1):=by rw[Hid,ByteArray.size_extract];omega
    rw[hbl]at hb
    clear hbl HT
    cases t1:(((t[0]'h0).toNat:Int)==32)with
    |true=>
     clear hb
     generalize hr:((t[0]'h0).toNat:Int)=r at*
     go_wp2
     go_roundg(t.size-1)
     case measure=>have:=HGK.out;omega
     case rel=>exact⟨t.extract 1 t.size,rfl,HS.out.symm,by rw[HS.out];omega,HT2,rfl⟩
    |false=>
     have t2:(((t[0]'h0).toNat:Int)==9)=true:=by rw[t1]at hb;simpa using hb.symm
     clear hb
     generalize hr:((t[0]'h0).toNat:Int)=r at*
     go_wp2
     go_roundg(t.size-1)
     case measure=>have:=HGK.out;omega
     case rel=>exact⟨t.extract 1 t.size,rfl,HS.out.symm,by rw[HS.out];omega,HT2,rfl⟩
   ·have HH:Hid (∀x,t.data.toList.head?=some x→blank x=false):=by
     intro x hx
     rw[list_head t h0]at hx
     simp at hx
     subst hx
     simpa using hbl
    have hbf:blank (t[0]'h0)=false:=by simpa using hbl
    rw[hbf]at hb
    have t1:(((t[0]'h0).toNat:Int)==32)=false:=by cases h:(((t[0]'h0).toNat:Int)==32);rfl;rw[h]at hb;cases hb
    have t2:(((t[0]'h0).toNat:Int)==9)=false:=by rw[t1]at hb;simpa using hb.symm
    clear hb hbl hbf
    generalize hr:((t[0]'h0).toNat:Int)=r at*
    go_wp2
    go_loopg[0]t.size(fun k v wr2=>∃q:ByteArray,v=.string q∧k=q.size∧q.size≤s.size∧Hid (trimL q.data.toList=trimL s.data.toList)∧Hid (∀x,q.data.toList.head?=some x→blank x=false)∧wr2=wr)
    case atStart=>exact⟨t,rfl,rfl,hts,HT,HH,rfl⟩
    case round=>
     clear HT HH
     obtain⟨q,rfl,hgk2,hqs,HT,HH,rfl⟩:=hrel
     have HG2:Hid (gk=q.size):=hgk2
     clear hgk2
     by_cases h0:0<q.size
     ·obtain⟨n,hn⟩:∃n,q.size=n+1:=⟨q.size-1,by omega⟩
      have hlt:n<q.size:=by omega
      have HLA:Hid (q.data.toList=q.data.toList.take n++[q[n]'hlt]):=by
       have h1:=take_snoc q 0 n hlt (Nat.zero_le _)
       rw[List.drop_zero,Nat.sub_zero,Nat.sub_zero,List.take_of_length_le (by rw[size_list];omega)]at h1
       exact h1
      have hb:=blank_iff (q[n]'hlt)
      cases hbl:blank (q[n]'hlt)with
      |true=>
       have HEX:Hid ((q.extract 0 n).data.toList=q.data.toList.take n):=by rw[Hid,ext_list,BA_data,List.drop_zero,Nat.sub_zero]
       have HT2:Hid (trimL (q.extract 0 n).data.toList=trimL s.data.toList):=by
        rw[Hid,HEX.out,←HT.out]
        conv=>rhs;rw[HLA.out]
        rw[trimL_snoc _ _ hbl]
       have HH2:Hid (∀x,(q.extract 0 n).data.toList.head?=some x→blank x=false):=by
        intro x hx
        apply HH.out x
        rw[HEX.out]at hx
        rw[HLA.out,List.head?_append,hx]
        rfl
       have HS:Hid ((q.extract 0 n).size=n):=by rw[Hid,ByteArray.size_extract];omega
       rw[hbl]at hb
       have hqs':n+1≤s.size:=by omega
       have HQ:Hid (gk=n+1):=HG2.out.trans hn
       clear hbl HT HH HLA HEX hqs HG2
       cases t1:(((q[n]'hlt).toNat:Int)==32)with
       |true=>
        clear hb
        generalize hr:((q[n]'hlt).toNat:Int)=r at*
        go_wp2
        go_roundg n
        case measure=>have:=HQ.out;omega
        case rel=>exact⟨q.extract 0 n,rfl,HS.out.symm,by rw[HS.out];omega,HT2,HH2,rfl⟩
       |false=>
        have t2:(((q[n]'hlt).toNat:Int)==9)=true:=by rw[t1]at hb;simpa using hb.symm
        clear hb
        generalize hr:((q[n]'hlt).toNat:Int)=r at*
        go_wp2
        go_roundg n
        case measure=>have:=HQ.out;omega
        case rel=>exact⟨q.extract 0 n,rfl,HS.out.symm,by rw[HS.out];omega,HT2,HH2,rfl⟩
      |false=>
       have HF:Hid (trim s=q):=by
        rw[Hid,HR.out,←HT.out,trimL_self _ HH.out,BA_list]
        intro x hx
        rw[HLA.out,List.getLast?_append]at hx
        simp at hx
        subst hx
        exact hbl
       rw[hbl]at hb
       have t1:(((q[n]'hlt).toNat:Int)==32)=false:=by cases h:(((q[n]'hlt).toNat:Int)==32);rfl;rw[h]at hb;cases hb
       have t2:(((q[n]'hlt).toNat:Int)==9)=false:=by rw[t1]at hb;simpa using hb.symm
       clear hb hbl HT HH HLA
       generalize hr:((q[n]'hlt).toNat:Int)=r at*
       go_wp2
       go_ret
       exact⟨by rw[HF.out];rfl,rfl⟩
     ·have HF:Hid (trim s=q):=by
       have:q.data.toList=[]:=List.eq_nil_of_length_eq_zero (by rw[size_list];omega)
       rw[Hid,HR.out,←HT.out,this,←BA_list q,this]
       rfl
      go_wp2
      go_ret
      exact⟨by rw[HF.out];rfl,rfl⟩
  ·have HH:Hid (∀x,t.data.toList.head?=some x→blank x=false):=by
    intro x hx
    have:t.data.toList=[]:=List.eq_nil_of_length_eq_zero (by rw[size_list];omega)
    rw[this]at hx
    cases hx
   go_wp2
   go_loopg[0]t.size(fun k v wr2=>∃q:ByteArray,v=.string q∧k=q.size∧q.size≤s.size∧Hid (trimL q.data.toList=trimL s.data.toList)∧Hid (∀x,q.data.toList.head?=some x→blank x=false)∧wr2=wr)
   case atStart=>exact⟨t,rfl,rfl,hts,HT,HH,rfl⟩
   case round=>
    clear HT HH
    obtain⟨q,rfl,hgk2,hqs,HT,HH,rfl⟩:=hrel
    have HG2:Hid (gk=q.size):=hgk2
    clear hgk2
    by_cases h0:0<q.size
    ·obtain⟨n,hn⟩:∃n,q.size=n+1:=⟨q.size-1,by omega⟩
     have hlt:n<q.size:=by omega
     have HLA:Hid (q.data.toList=q.data.toList.take n++[q[n]'hlt]):=by
      have h1:=take_snoc q 0 n hlt (Nat.zero_le _)
      rw[List.drop_zero,Nat.sub_zero,Nat.sub_zero,List.take_of_length_le (by rw[size_list];omega)]at h1
      exact h1
     have hb:=blank_iff (q[n]'hlt)
     cases hbl:blank (q[n]'hlt)with
     |true=>
      have HEX:Hid ((q.extract 0 n).data.toList=q.data.toList.take n):=by rw[Hid,ext_list,BA_data,List.drop_zero,Nat.sub_zero]
      have HT2:Hid (trimL (q.extract 0 n).data.toList=trimL s.data.toList):=by
       rw[Hid,HEX.out,←HT.out]
       conv=>rhs;rw[HLA.out]
       rw[trimL_snoc _ _ hbl]
      have HH2:Hid (∀x,(q.extract 0 n).data.toList.head?=some x→blank x=false):=by
       intro x hx
       apply HH.out x
       rw[HEX.out]at hx
       rw[HLA.out,List.head?_append,hx]
       rfl
      have HS:Hid ((q.extract 0 n).size=n):=by rw[Hid,ByteArray.size_extract];omega
      rw[hbl]at hb
      have hqs':n+1≤s.size:=by omega
      have HQ:Hid (gk=n+1):=HG2.out.trans hn
      clear hbl HT HH HLA HEX hqs HG2
      cases t1:(((q[n]'hlt).toNat:Int)==32)with
      |true=>
       clear hb
       generalize hr:((q[n]'hlt).toNat:Int)=r at*
       go_wp2
       go_roundg n
       case measure=>have:=HQ.out;omega
       case rel=>exact⟨q.extract 0 n,rfl,HS.out.symm,by rw[HS.out];omega,HT2,HH2,rfl⟩
      |false=>
       have t2:(((q[n]'hlt).toNat:Int)==9)=true:=by rw[t1]at hb;simpa using hb.symm
       clear hb
       generalize hr:((q[n]'hlt).toNat:Int)=r at*
       go_wp2
       go_roundg n
       case measure=>have:=HQ.out;omega
       case rel=>exact⟨q.extract 0 n,rfl,HS.out.symm,by rw[HS.out];omega,HT2,HH2,rfl⟩
     |false=>
      have HF:Hid (trim s=q):=by
       rw[Hid,HR.out,←HT.out,trimL_self _ HH.out,BA_list]
       intro x hx
       rw[HLA.out,List.getLast?_append]at hx
       simp at hx
       subst hx
       exact hbl
      rw[hbl]at hb
      have t1:(((q[n]'hlt).toNat:Int)==32)=false:=by cases h:(((q[n]'hlt).toNat:Int)==32);rfl;rw[h]at hb;cases hb
      have t2:(((q[n]'hlt).toNat:Int)==9)=false:=by rw[t1]at hb;simpa using hb.symm
      clear hb hbl HT HH HLA
      generalize hr:((q[n]'hlt).toNat:Int)=r at*
      go_wp2
      go_ret
      exact⟨by rw[HF.out];rfl,rfl⟩
    ·have HF:Hid (trim s=q):=by
      have:q.data.toList=[]:=List.eq_nil_of_length_eq_zero (by rw[size_list];omega)
      rw[Hid,HR.out,←HT.out,this,←BA_list q,this]
      rfl
     go_wp2
     go_ret
     exact⟨by rw[HF.out];rfl,rfl⟩
end Go.Proofs.YtbbeciofgnkggaaGreatDoor.lin
namespace Go.Proofs.YtbbeciofgnkggaaGreatDoor.lin
open Go.RowKit
theorem infoStr2:(Tryz.prog.info? 9).map (fun i=>(i.zero,i.size,i.bytes))=some (some (.string ByteArray.empty),1,16):=by kernel_rfl
theorem own_slice2{w:World}{B e size n:Nat}{v:Value}{xs:List Value}(h:w.ownsRow B e size v n xs):∃a c,v=.slice a n c:=by
 rcases h.2 with hn|⟨g,cap,cur,rfl,_⟩
 ·obtain⟨rfl,rfl⟩:=hn;exact⟨_,_,rfl⟩
 ·exact⟨_,_,rfl⟩
theorem rcut_any(s:ByteArray)(b:Nat)(w:World)(hs:s.size≤1099511627776):
  Calls Tryz.prog 118 #[.string s,.int .u8 b] w fun e w'=>∃v,e=.returned v∧w'.ownsRow w.heap.size 9 1 v (cutV s b).length ((cutV s b).map Value.string)∧Below w.heap.size w w':=by
 obtain⟨i0,hi,hz0,hy1,hz2⟩:=info_parts infoStr2
 go_enter Tryz.func118,Tryz.ntmps118
 go_wp2
 go_loopg[5,6,7]s.size(fun k v t e wr=>∃(p st:Nat)(out:List ByteArray),k=s.size-p∧t=.int .i64 st∧e=.int .i64 p∧st≤p∧p≤s.size∧out.length≤st∧wr.ownsRow w.heap.size 9 1 v out.length (out.map Value.string)∧Hid (out++cuts s b (s.size-p) p st=cutV s b)∧Below w.heap.size w wr)
 case atStart=>exact⟨0,0,[],by omega,rfl,rfl,Nat.zero_le _,Nat.zero_le _,Nat.le_refl _,World.ownsRow_nil _ _ _ _,rfl,Below.refl _ _⟩
 case round=>
  obtain⟨p,st,out,hgk,rfl,rfl,hst,hp,hol,hown,HSC,hbel⟩:=hrel
  have HGK:Hid (gk=s.size-p):=hgk
  clear hgk
  obtain⟨sa,sc,rfl⟩:=own_slice2 hown
  have HW:Hid (∀k,(Value.slice sa out.length sc).ownBlock=some k→w.heap.size≤k):=fun k e=>(hown.lt _ e).1
  have hs3:=hbel.size
  by_cases hlt:p<s.size
  ·have he:=at8_eq s p hlt
   by_cases hb:(s[p]'hlt).toNat=b
   ·have t1:((((s[p]'hlt).toNat:Nat):Int)==(b:Int))=true:=by simp;omega
    have HS2:Hid ((out++[s.extract st p])++cuts s b (s.size-(p+1)) (p+1) (p+1)=cutV s b):=by
     have:=cuts_hit s b (s.size-p) p st (by omega) (by rw[he];omega)
     rw[show s.size-p-1=s.size-(p+1)from by omega]at this
     rw[Hid,←HSC.out,this,List.append_assoc];rfl
    clear HSC he
    generalize hr:(s[p]'hlt).toNat=r at*
    clear hb
    generalize ht:s.extract st p=t at*
    go_wp2_with(at_builtin;refine wpList_append_own _ rfl _ _ 40 rfl w.heap.size 9 i0 (.string ByteArray.empty) 1 16 Tryz.underlying40 hi hz0 hy1 hz2 rfl (by decide) _ _ _ rfl (hown.alloc _) ⟨wr.heap.size,0,none⟩ 1 1 [.string t] rfl rfl (cell_one_new _ _ _) (by simp[Value.oneCell']) (by unfold maxLen;omega) (by omega) (by simp;omega) ?_)
    intro v' w3 hown4 hgrow _
    have R1:=(hbel.alloc hs3 (.cells #[.string t] 9)).grown hgrow (by simp;omega) HW.out
    have R3:w3.ownsRow w.heap.size 9 1 v' (out++[t]).length ((out++[t]).map Value.string):=by
     rw[List.length_append,List.map_append];exact hown4
    clear hgrow hown hown4
    go_wp2
    go_roundg(s.size-(p+1))
    case measure=>have:=HGK.out;omega
    case rel=>exact⟨p+1,p+1,out++[t],rfl,by go_num,by go_num,Nat.le_refl _,by omega,by simp;omega,R3,HS2,R1⟩
   ·have t1:((((s[p]'hlt).toNat:Nat):Int)==(b:Int))=false:=by simp;omega
    have HS2:Hid (out++cuts s b (s.size-(p+1)) (p+1) st=cutV s b):=by
     have:=cuts_not s b (s.size-p) p st (by omega) (by rw[he];omega)
     rw[show s.size-p-1=s.size-(p+1)from by omega]at this
     rw[Hid,←HSC.out,this]
    clear HSC he
    generalize hr:(s[p]'hlt).toNat=r at*
    clear hb
    go_wp2
    go_roundg(s.size-(p+1))
    case measure=>have:=HGK.out;omega
    case rel=>exact⟨p+1,st,out,rfl,rfl,by go_num,by omega,by omega,hol,hown,HS2,hbel⟩
  ·obtain rfl:p=s.size:=by omega
   have HF:Hid (out++[s.extract st s.size]=cutV s b):=by
    rw[Hid,←HSC.out,Nat.sub_self];rfl
   clear HSC
   generalize ht:s.extract st s.size=t at*
   go_wp2_with(at_builtin;refine wpList_append_own _ rfl _ _ 40 rfl w.heap.size 9 i0 (.string ByteArray.empty) 1 16 Tryz.underlying40 hi hz0 hy1 hz2 rfl (by decide) _ _ _ rfl (hown.alloc _) ⟨wr.heap.size,0,none⟩ 1 1 [.string t] rfl rfl (cell_one_new _ _ _) (by simp[Value.oneCell']) (by unfold maxLen;omega) (by omega) (by simp;omega) ?_)
   intro v' w3 hown4 hgrow _
   have R1:=(hbel.alloc hs3 (.cells #[.string t] 9)).grown hgrow (by simp;omega) HW.out
   clear hgrow hown
   go_wp2
   go_ret
   exact⟨_,rfl,by rw[←HF.out,List.length_append,List.map_append];exact hown4,R1⟩
end Go.Proofs.YtbbeciofgnkggaaGreatDoor.lin
namespace Go.Proofs.YtbbeciofgnkggaaGreatDoor.lin
open Go.RowKit
theorem strRow{w:World}{base:Nat}{v:Value}{xs:List ByteArray}(h:w.ownsRow base 9 1 v xs.length (xs.map Value.string)):
  ∃a c,v=.slice a xs.length c∧(0<xs.length→∃g,a=some ⟨g,0,none⟩∧base≤g∧g<w.heap.size∧xs.length≤c∧c≤maxLen∧(∃cur:Array Value,w.heap[g]?=some (.cells cur 9 (0,0))∧∀(i:Nat)(x:ByteArray),xs[i]?=some x→cur[i]?=some (Value.string x))∧∀(i:Nat)(x:ByteArray),xs[i]?=some x→w.cell? ⟨g,i,none⟩=some (.string x)):=by
 rcases h.2 with hn|⟨g,cap,cur,rfl,hg,hgg,h3,h4,h5,h6⟩
 ·obtain⟨rfl,h0⟩:=hn
  rw[h0]
  exact⟨_,_,rfl,fun h=>by omega⟩
 ·have hc:∀(i:Nat)(x:ByteArray),xs[i]?=some x→cur[i]?=some (Value.string x):=by
   intro i x hx
   have hi:i<xs.length*1:=by have:=(List.getElem?_eq_some_iff.1 hx).1;omega
   rw[←Array.getElem?_toList,←List.getElem?_take_of_lt hi,h6,List.getElem?_map,hx]
   rfl
  exact⟨_,_,rfl,fun _=>⟨g,rfl,hg,(Array.getElem?_eq_some_iff.1 hgg).1,h3,h4,⟨cur,hgg,hc⟩,fun i x hx=>by rw[cell_of_row w g i cur _ _ hgg];exact hc i x hx⟩⟩
theorem own_lower{w:World}{B B2 e size n:Nat}{v:Value}{xs:List Value}(h:w.ownsRow B2 e size v n xs)(hb:B≤B2):w.ownsRow B e size v n xs:=by
 refine⟨h.1,?_⟩
 rcases h.2 with hn|⟨g,cap,cur,rfl,hg,rest⟩
 ·exact .inl hn
 ·exact .inr ⟨g,cap,cur,rfl,by omega,rest⟩
theorem cutV_len2(s:ByteArray)(b:Int):(cutV s b).length≤s.size+1:=cuts_len s b s.size 0 0
theorem cutV_head(s:ByteArray)(b:UInt8):(cutV s (b.toNat:Int))[0]?=some (BA (s.data.toList.takeWhile (·≠b)))∧0<(cutV s (b.toNat:Int)).length:=by
 rw[cutV_list,←cutL_head]
 cases hc:cutL b s.data.toList with
 |nil=>exact absurd hc (cutL_ne _ _)
 |cons x t=>exact⟨rfl,by simp⟩
theorem fieldsV_ref(s:ByteArray):fieldsV s=if trim (BA (s.data.toList.takeWhile (·≠35)))=BA []then[]else(cutV (trim (BA (s.data.toList.takeWhile (·≠35)))) 59).map trim:=by
 have h59:=cutV_list (trim (BA (s.data.toList.takeWhile (·≠35)))) 59
 rw[fieldsV_list,fieldsL_ref]
 rw[trim_BA]at h59⊢
 rw[BA_data]at h59
 have h59':cutV (BA (trimL (s.data.toList.takeWhile (·≠35)))) 59=(cutL 59 (trimL (s.data.toList.takeWhile (·≠35)))).map BA:=h59
 rw[h59']
 generalize trimL (s.data.toList.takeWhile (·≠35))=t
 by_cases ht:t=[]
 ·rw[if_pos ht,if_pos (by rw[ht])];rfl
 ·rw[if_neg ht,if_neg (fun e=>ht (by have:=congrArg (fun x:ByteArray=>x.data.toList) e;exact this)),List.map_map,List.map_map]
  rfl
theorem rfields_any(s:ByteArray)(w:World)(hs:s.size≤1073741824):
  Calls Tryz.prog 119 #[.string s] w fun e w'=>∃v,e=.returned v∧w'.ownsRow w.heap.size 9 1 v (fieldsV s).length ((fieldsV s).map Value.string)∧Below w.heap.size w w':=by
 obtain⟨i0,hi,hz0,hy1,hz2⟩:=info_parts infoStr2
 have HF:Hid (fieldsV s=if trim (BA (s.data.toList.takeWhile (·≠35)))=BA []then[]else(cutV (trim (BA (s.data.toList.takeWhile (·≠35)))) 59).map trim):=fieldsV_ref s
 have RC:=rcut_any s 35 w (by omega)
 have hch:=cutV_head s 35
 have hh2:(BA (s.data.toList.takeWhile (·≠35))).size≤s.size:=by
  rw[BA_size,←size_list];exact(List.takeWhile_prefix _).length_le
 go_enter Tryz.func119,Tryz.ntmps119
 go_wp2_with fail
 refine RC.mono ?_
 rintro e w1⟨v,rfl,hown,b1⟩
 obtain⟨a,c,rfl,hrow⟩:=strRow hown
 have hlen:0<(cutV s (35:Int)).length:=hch.2
 obtain⟨g,rfl,_,hg,_,_,_,hcell⟩:=hrow hlen
 have c0:=hcell 0 _ hch.1
 clear hcell hrow hown hch RC
 generalize hh:BA (s.data.toList.takeWhile (·≠35))=h at*
 clear hh
 generalize hL:(cutV s ((35:Nat):Int)).length=L at*
 have TR:=rtrim_any h w1 (by omega)
 have hts:=trim_size h
 generalize htt:trim h=t at*
 clear htt
 go_wp2_with fail
 refine TR.mono ?_
 rintro e w1'⟨rfl,hw1⟩
 subst hw1
 clear TR c0
 by_cases hz:t.size=0
 ·have z2:t.toList.isEmpty=true:=isEmpty_of hz
  have HE:Hid (fieldsV s=[]):=by
   rw[Hid,HF.out,if_pos]
   have hl:t.data.toList=[]:=List.eq_nil_of_length_eq_zero (by rw[size_list];exact hz)
   rw[←BA_list t,hl]
  go_wp2
  go_ret
  exact⟨_,rfl,by rw[HE.out];exact World.ownsRow_nil _ _ _ _,b1⟩
 ·have z2:t.toList.isEmpty=false:=isEmpty_not hz
  have HE:Hid (fieldsV s=(cutV t 59).map trim):=by
   rw[Hid,HF.out,if_neg]
   intro e
   rw[e]at hz
   exact hz rfl
  have RC:=rcut_any t 59 w1' (by omega)
  clear HF
  go_wp2_with fail
  refine RC.mono ?_
  rintro e w2⟨v,rfl,hown,b2⟩
  have b12:=b1.trans (b2.mono b1.size)
  obtain⟨a,c2,rfl,hrow⟩:=strRow hown
  clear RC hown
  have hpos:0<(cutV t ((59:Nat):Int)).length:=(cutV_head t 59).2
  obtain⟨g2,rfl,_,hg2,_,_,_,hcell⟩:=hrow hpos
  have HC:Hid (∀i x,(cutV t 59)[i]?=some x→w2.cell? ⟨g2,i,none⟩=some (.string x)):=hcell
  have HN:Hid (∀i,i<(cutV t 59).length→∃x,(cutV t 59)[i]?=some x∧(cutV t 59).take (i+1)=(cutV t 59).take i++[x]):=fun i h=>⟨_,List.getElem?_eq_getElem h,by rw[List.take_add_one,List.getElem?_eq_getElem h];rfl⟩
  have HSZ:Hid (∀x∈cutV t 59,x.size≤t.size):=fun x hx=>cuts_size _ _ _ _ _ x hx
  have hcl:=cutV_len2 t 59
  clear hrow hcell hpos
  have e59:cutV t ((59:Nat):Int)=cutV t 59:=rfl
  rw[e59]
  clear e59
  generalize cutV t 59=cs at*
  go_wp2
  go_loopw[3,16](fun v i wr=>∃k:Nat,k≤cs.length∧i=.int .i64 k∧wr.ownsRow w2.heap.size 9 1 v ((cs.take k).map trim).length (((cs.take k).map trim).map Value.string)∧Below w2.heap.size w2 wr)(fun _ i _=>cs.length-(RowKit.intOf i).toNat)
  case atStart=>exact⟨0,Nat.zero_le _,rfl,World.ownsRow_nil _ _ _ _,Below.refl _ _⟩
  case round=>
   obtain⟨k,hk,rfl,hown,hbel⟩:=hrel
   by_cases hlt:k<cs.length
   ·obtain⟨x,hx,htk⟩:=HN.out k hlt
    have hlt':(k:Int)<(cs.length:Int):=by omega
    have cx:wr.cell? ⟨g2,k,none⟩=some (.string x):=(hbel.cell (p:=⟨g2,k,none⟩) hg2).trans (HC.out k x hx)
    have hxs:=HSZ.out x (List.mem_of_getElem? hx)
    have HTK:Hid ((cs.take (k+1)).map trim=(cs.take k).map trim++[trim x]):=by rw[Hid,htk,List.map_append];rfl
    have hlk:((cs.take k).map trim).length=k:=by simp;omega
    have HW:Hid (∀j,u3.ownBlock=some j→w2.heap.size≤j):=fun j e=>(hown.lt _ e).1
    have TX:=rtrim_any x wr (by omega)
    obtain⟨sa,sc,rfl⟩:=own_slice2 hown
    generalize(cs.take k).map trim=D at*
    generalize trim x=tx at*
    subst hlk
    clear htk hx
    have hbs:=hbel.size
    go_wp2_with fail
    refine TX.mono ?_
    rintro e wr'⟨rfl,hwr⟩
    subst hwr
    clear TX
    go_wp2_with(at_builtin;refine wpList_append_own _ rfl _ _ 40 rfl w2.heap.size 9 i0 (.string ByteArray.empty) 1 16 Tryz.underlying40 hi hz0 hy1 hz2 rfl (by decide) _ _ _ rfl (hown.alloc _) ⟨wr'.heap.size,0,none⟩ 1 1 [.string tx] rfl rfl (cell_one_new _ _ _) (by simp[Value.oneCell']) (by unfold maxLen;omega) (by omega) (by simp;omega) ?_)
    intro v' w3 hown4 hgrow _
    have R1:=(hbel.alloc hbs (.cells #[.string tx] 9)).grown hgrow (by simp;omega) HW.out
    have R3:w3.ownsRow w2.heap.size 9 1 v' ((cs.take (D.length+1)).map trim).length (((cs.take (D.length+1)).map trim).map Value.string):=by
     rw[HTK.out,List.length_append,List.map_append];exact hown4
    clear hgrow hown hown4 HTK hbel
    go_wp2
    go_roundw
    case rel=>exact⟨D.length+1,by omega,by go_num,R3,R1⟩
    case measure=>simp[RowKit.intOf];omega
   ·obtain rfl:k=cs.length:=by omega
    rw[List.take_length]at hown
    have b3:=b12.trans (hbel.mono b12.size)
    go_wp2
    go_ret
    exact⟨_,rfl,by rw[HE.out];exact own_lower hown b12.size,b3⟩
end Go.Proofs.YtbbeciofgnkggaaGreatDoor.lin
namespace Go.Proofs.YtbbeciofgnkggaaGreatDoor.lin
open Go.RowKit Go.Shelf
attribute [local go_sem] Oper.semAt_some
theorem wide_depth(n:Nat):Fence.wide.depth.isSome=true→1≤n:=fun h=>by simp[Fence.wide]at h
/--The three captured variables of the closure: the text left, the separator, what is kept of it. -/
structure Caps(W:World)(c:Nat)(s:ByteArray):Prop where
 text:Boxed W c 9 (.string s)
 sep:Boxed W (c+1) 9 (.string ⟨#[10]⟩)
 save:Boxed W (c+2) 3 (.int .i64 0)
theorem Caps.keep{W W':World}{c hi:Nat}{s:ByteArray}(h:Caps W c s)(hh:c+3≤hi)(k:Keep c hi W W'):Caps W' c s:=
 ⟨(k c (by omega) (by omega)).trans h.text,(k (c+1) (by omega) (by omega)).trans h.sep,(k (c+2) (by omega) (by omega)).trans h.save⟩
theorem SplitSeq_any(s:ByteArray)(w:World):
  Calls Tryz.prog 176 #[.string s,.string ⟨#[10]⟩] w fun e w'=>e=.returned (.func (.func 184) #[] #[.pointer (some ⟨w.heap.size+1,0,none⟩),.pointer (some ⟨w.heap.size,0,none⟩),.pointer (some ⟨w.heap.size+2,0,none⟩)])∧
   w'=((w.alloc (.cells #[.string s] 9)).alloc (.cells #[.string ⟨#[10]⟩] 9)).alloc (.cells #[.int .i64 0] 3):=by
 have SP:Calls Tryz.prog 181 #[.string s,.string ⟨#[10]⟩,.int .i64 0] w fun e w'=>e=.returned (.func (.func 184) #[] #[.pointer (some ⟨w.heap.size+1,0,none⟩),.pointer (some ⟨w.heap.size,0,none⟩),.pointer (some ⟨w.heap.size+2,0,none⟩)])∧
   w'=((w.alloc (.cells #[.string s] 9)).alloc (.cells #[.string ⟨#[10]⟩] 9)).alloc (.cells #[.int .i64 0] 3):=by
  go_enter Tryz.func181,Tryz.ntmps181
  go_wp2
  go_ret
  exact⟨rfl,rfl⟩
 go_enter Tryz.func176,Tryz.ntmps176
 go_wp2_with(go_at_call 181;refine SP.mono ?_;rintro e w'⟨rfl,rfl⟩)
 go_ret
 exact⟨rfl,rfl⟩
theorem split_gives(n c:Nat)(s:ByteArray)(w:World)(hs:s.size≤1099511627776)(hcap:Caps w c s):
  Gives n Tryz.prog 184 #[.pointer (some ⟨c+1,0,none⟩),.pointer (some ⟨c,0,none⟩),.pointer (some ⟨c+2,0,none⟩)] (fun x=>#[.string x]) (cutV s 10) c c w.heap.size w:=by
 intro l J Jx W hW hJ hY h0
 have hlt:=hcap.save.lt
 have hcW:Caps W c s:=⟨(hW.block c (by omega)).trans hcap.text,(hW.block (c+1) (by omega)).trans hcap.sep,(hW.block (c+2) hlt).trans hcap.save⟩
 refine callsIn_of_wp Tryz.func184 rfl trivial ?_ rfl
 simp only[Tryz.ntmps184,List.size_toArray,List.length_cons,List.length_nil,Nat.reduceAdd,Nat.reduceSub,Array.replicate_succ,Array.replicate_zero,List.push_toArray,List.append_toArray,List.nil_append,List.cons_append]
 have c1:=hcW.sep.cell
 gi_wp2
 clear c1
 gi_loopg[7]s.size(fun k v wr=>∃(a:Nat)(pre:List ByteArray),k=s.size-a∧a≤s.size∧Hid (pre++cuts s 10 (s.size-a) a a=cutV s 10)∧Caps wr c (s.extract a s.size)∧J pre wr)
 case atStart=>exact⟨0,[],by omega,Nat.zero_le _,rfl,by rw[show s.extract 0 s.size=s from by simp];exact hcW,h0⟩
 case round=>
  obtain⟨a,pre,hgk,ha,HX,hcr,hj⟩:=hrel
  have c0:=hcr.text.cell
  have c1:=hcr.sep.cell
  have c2:=hcr.save.cell
  have IX:=Tryz.strings_Index_one (s.extract a s.size) 10 wr
  rcases(show Lib.indexByte (s.extract a s.size).data.toList 10=-1∨∃o:Nat,Lib.indexByte (s.extract a s.size).data.toList 10=o from by
   have:=Lib.indexByte_ge (s.extract a s.size).data.toList 10
   rcases(show Lib.indexByte (s.extract a s.size).data.toList 10=-1∨0≤Lib.indexByte (s.extract a s.size).data.toList 10 from by omega)with h|h
   ·exact .inl h
   ·exact .inr ⟨_,(Int.toNat_of_nonneg h).symm⟩)with hi|⟨o,hi⟩
  ·have hr:=rest_none s a ha hi
   rw[hi]at IX
   have HX2:cutV s 10=pre++[s.extract a s.size]:=by rw[←HX.out,hr]
   obtain⟨fn,tmps,assign,body,hy,hR⟩:=hY pre (s.extract a s.size) [] wr HX2 hj
   clear HX hr hi
   have HX3:Hid (cutV s 10=pre++[s.extract a s.size]):=HX2
   clear HX2
   generalize s.extract a s.size=R at*
   gi_wp2
   refine⟨trivial,wide_depth _,(callsIn_wide.2 IX).mono ?_⟩
   rintro e w'⟨rfl,rfl⟩
   gi_wp2
   refine⟨wide_depth _,hR.mono ?_⟩
   rintro e W3(⟨rfl,hJ3,hk3⟩|⟨rfl,hJx3⟩)
   ·gi_wp2
    go_end0
    exact⟨⟨_,rfl⟩,.inl (by rw[HX3.out];exact hJ3)⟩
   ·gi_wp2
    go_end0
    exact⟨⟨_,rfl⟩,.inr ⟨_,hJx3⟩⟩
  ·obtain⟨hao,hr⟩:=rest_some s a o ha hi
   rw[hi]at IX
   have HX2:cutV s 10=pre++s.extract a (a+o)::cuts s 10 (s.size-(a+o+1)) (a+o+1) (a+o+1):=by rw[←HX.out,hr]
   obtain⟨fn,tmps,assign,body,hy,hR⟩:=hY pre (s.extract a (a+o)) _ wr HX2 hj
   clear HX hr hi
   have HX3:Hid (cutV s 10=pre++s.extract a (a+o)::cuts s 10 (s.size-(a+o+1)) (a+o+1) (a+o+1)):=HX2
   clear HX2
   have e1:=ext_first s a o (by omega)
   have e2:=ext_last s a (o+1) ha
   have hz:(s.extract a s.size).size=s.size-a:=by rw[ByteArray.size_extract];omega
   generalize s.extract a s.size=R at*
   generalize s.extract a (a+o)=X at*
   gi_wp2
   refine⟨trivial,wide_depth _,(callsIn_wide.2 IX).mono ?_⟩
   rintro e w'⟨rfl,rfl⟩
   gi_wp2
   refine⟨wide_depth _,hR.mono ?_⟩
   rintro e W3(⟨rfl,hJ3,hk3⟩|⟨rfl,hJx3⟩)
   ·have hc3:=hcr.keep hlt hk3
    have d0:=hc3.text.cell
    have d1:=hc3.sep.cell
    have d2:=hc3.save.cell
    have f0:=hc3.text.frozen
    gi_wp2
    gi_roundg(s.size-(a+(o+1)))
    case measure=>omega
    case rel=>exact⟨a+(o+1),pre++[X],rfl,by omega,by rw[HX3.out];simp[Hid,Nat.add_assoc],⟨by rw[←e2,hz];exact hc3.text.set _,hc3.sep.other (by omega) _,hc3.save.other (by omega) _⟩,hJ _ _ _ hJ3 (grownBy_setCell' _ _ _)⟩
   ·gi_wp2
    refine bodyPost_ret (results_none rfl _ _ _) rfl ?_
    exact⟨⟨_,rfl⟩,.inr ⟨_,hJx3⟩⟩
end Go.Proofs.YtbbeciofgnkggaaGreatDoor.lin
namespace Go.Proofs.YtbbeciofgnkggaaGreatDoor.lin
open Go.RowKit Go.Shelf
attribute [local go_sem] Oper.semAt_some
theorem infoStrs:(Tryz.prog.info? 40).map (fun i=>(i.zero,i.size,i.bytes))=some (some (.slice none 0 0),1,24):=by kernel_rfl
def rowOf(x:ByteArray):List (List ByteArray):=if(fieldsV x).length=0 then[]else[fieldsV x]
def rowsOf(ls:List ByteArray):List (List ByteArray):=ls.flatMap rowOf
theorem rowsOf_snoc(pre:List ByteArray)(x:ByteArray):rowsOf (pre++[x])=rowsOf pre++rowOf x:=by simp[rowsOf]
theorem rowsOf_len(pre:List ByteArray):(rowsOf pre).length≤pre.length:=by
 induction pre with
 |nil=>exact Nat.le_refl _
 |cons x pre ih=>
  have:(rowOf x).length≤1:=by unfold rowOf;split<;>simp
  simp only[rowsOf,List.flatMap_cons,List.length_append,List.length_cons]at*
  omega
/--v is a slice of rows of strings, a row of its own from base on. -/
def RowsAt(w:World)(base:Nat)(v:Value)(rs:List (List ByteArray)):Prop:=
 ∃L:List (Value×List ByteArray),L.map (·.2)=rs∧w.ownsRow base 40 1 v L.length (L.map (·.1))∧∀q∈L,FAt w base q.1 q.2
theorem FAt.turnsT{D:Nat→Prop}{A B:World}{base:Nat}{v:Value}{fs:List ByteArray}(t:TypeId)(ht:t≠9)(h:FAt A base v fs)(tt:Turns D A B)(hd:∀k,D k→k<base∨(∃cur,A.heap[k]?=some (.cells cur t (0,0)))):FAt B base v fs:=by
 obtain⟨g,off,cap,cur,rfl,hg,hgg,hc⟩:=h
 refine⟨g,off,cap,cur,rfl,hg,(tt.block g (Array.getElem?_eq_some_iff.1 hgg).1 (fun d=>?_)).trans hgg,hc⟩
 rcases hd g d with h|⟨cur',h⟩
 ·omega
 ·rw[hgg]at h;cases h;exact ht rfl
theorem RowsAt.turns{D:Nat→Prop}{A B:World}{base:Nat}{v:Value}{rs:List (List ByteArray)}(h:RowsAt A base v rs)(t:Turns D A B)(hd:∀k,D k→k<base):RowsAt B base v rs:=by
 obtain⟨L,hL,ho,hf⟩:=h
 exact⟨L,hL,t.own ho (fun k e d=>by have:=(ho.lt k e).1;have:=hd k d;omega),fun q hq=>(hf q hq).turnsT 40 (by decide) t (fun k d=>.inl (hd k d))⟩
theorem RowsAt.kept{A B:World}{base:Nat}{v:Value}{rs:List (List ByteArray)}(h:RowsAt A base v rs)(hb:Below A.heap.size A B):RowsAt B base v rs:=h.turns (D:=fun _=>False) (.of_below hb) (fun _ h=>h.elim)
theorem RowsAt.nil(w:World)(base:Nat):RowsAt w base (.slice none 0 0) []:=⟨[],rfl,World.ownsRow_nil _ _ _ _,fun _ h=>by cases h⟩
theorem RowsAt.lower{w:World}{base base2:Nat}{v:Value}{rs:List (List ByteArray)}(h:RowsAt w base2 v rs)(hb:base≤base2):RowsAt w base v rs:=by
 obtain⟨L,hL,ho,hf⟩:=h
 exact⟨L,hL,own_lower ho hb,fun q hq=>(hf q hq).lower hb⟩
theorem RowsAt.push{A B:World}{base:Nat}{v v':Value}{L:List (Value×List ByteArray)}{fv:Value}{fs:List ByteArray}(hf:∀q∈L,FAt A base q.1 q.2)(ho:A.ownsRow base 40 1 v L.length (L.map (·.1)))(hF:FAt A base fv fs)(hgrow:A.grownBy B v.ownBlock)
  (hown:B.ownsRow base 40 1 v' (L.length+1) (L.map (·.1)++[fv])):RowsAt B base v' (L.map (·.2)++[fs]):=by
 have t:Turns (fun k=>∃cur,A.heap[k]?=some (.cells cur 40 (0,0))) A B:=.of_grown hgrow (own_typed ho)
 refine⟨L++[(fv,fs)],by rw[List.map_append];rfl,by rw[List.length_append,List.map_append];exact hown,fun q hq=>?_⟩
 rcases List.mem_append.1 hq with hq|hq
 ·exact(hf q hq).turnsT 40 (by decide) t (fun k d=>.inr d)
 ·obtain rfl:=List.mem_singleton.1 hq
  exact hF.turnsT 40 (by decide) t (fun k d=>.inr d)
/--Between two rounds. -/
structure RI(w0:World)(pre:List ByteArray)(W:World):Prop where
 out:∃v,Boxed W w0.heap.size 118 v∧RowsAt W (w0.heap.size+6) v (rowsOf pre)
 low:Below w0.heap.size w0 W
theorem RI.turns{w0:World}{pre:List ByteArray}{A B:World}{D:Nat→Prop}(h:RI w0 pre A)(t:Turns D A B)(hd:∀k,D k→w0.heap.size+1≤k∧k<w0.heap.size+6):RI w0 pre B:=by
 obtain⟨v,hv,hr⟩:=h.out
 exact⟨⟨v,t.boxed hv (fun d=>by have:=hd _ d;omega),hr.turns t (fun k d=>(hd k d).2)⟩,h.low.trans (t.below h.low.size (fun k d=>by have:=hd k d;omega))⟩
theorem four(w:World)(A0 A1 A2 A3:Obj){W:World}(hW:W=(((w.alloc A0).alloc A1).alloc A2).alloc A3):
  W.heap.size=w.heap.size+4∧Below w.heap.size w W∧W.heap[w.heap.size]?=some A0∧W.heap[w.heap.size+1]?=some A1∧W.heap[w.heap.size+2]?=some A2∧W.heap[w.heap.size+3]?=some A3:=by
 have old:∀(V:World)(o o':Obj)(k:Nat),V.heap[k]?=some o→(V.alloc o').heap[k]?=some o:=fun V o o' k h=>(Below.heap_alloc V o' k (Array.getElem?_eq_some_iff.1 h).1).trans h
 have new:∀(V:World)(o:Obj)(k:Nat),V.heap.size=k→(V.alloc o).heap[k]?=some o:=fun V o k h=>by rw[←h];exact World.alloc_heap_new V o
 subst hW
 refine⟨by simp,?_,?_,?_,?_,?_⟩
 ·exact((((Below.refl _ w).alloc (Nat.le_refl _) _).alloc (by simp) _).alloc (by simp;omega) _).alloc (by simp;omega) _
 ·exact old _ _ _ _ (old _ _ _ _ (old _ _ _ _ (new _ _ _ rfl)))
 ·exact old _ _ _ _ (old _ _ _ _ (new _ _ _ (by simp)))
 ·exact old _ _ _ _ (new _ _ _ (by simp))
 ·exact new _ _ _ (by simp)
theorem rows_any(s:ByteArray)(w:World)(hs:s.size≤1073741824):
  Calls Tryz.prog 168 #[.string s] w fun e w'=>∃v,e=.returned v∧RowsAt w' w.heap.size v (rowsOf (cutV s 10))∧Below w.heap.size w w':=by
 obtain⟨i0,hi,hz0,hy1,hz2⟩:=info_parts infoStrs
 refine callsIn_wide (n:=9)|>.1 ?_
 refine callsIn_of_wp_marks Tryz.func168 rfl trivial ?_ rfl
 simp only[Tryz.ntmps168,List.size_toArray,List.length_cons,List.length_nil,Nat.reduceAdd,Nat.reduceSub,Array.replicate_succ,Array.replicate_zero,List.push_toArray,List.append_toArray,List.nil_append,List.cons_append]
 gi_wp2
 refine⟨trivial,(callsIn_wide.2 (SplitSeq_any s _)).mono ?_⟩
 rintro e w'⟨rfl,hw'⟩
 simp only[World.size_alloc,Nat.add_assoc,Nat.reduceAdd]at hw'⊢
 gi_wp2
 obtain⟨hsz,hB,b0,b1,b2,b3⟩:=four w _ _ _ _ hw'
 clear hw'
 refine range_own (c:=w.heap.size+1) (lo:=w.heap.size+1) rfl (enters_of Tryz.func184 (by kernel_rfl) rfl) (by omega) (by omega) (split_gives _ (w.heap.size+1) s w' (by omega) ⟨b1,b2,b3⟩) (fun _=>rfl)
  (RI w) (fun _ _=>False) (fun _ A B h t=>h.turns t (fun k d=>by omega)) (fun _ A B h t=>h)
  ⟨⟨_,b0,RowsAt.nil _ _⟩,hB⟩
  (fun x=>{tmps:=#[.string s,undef,.slice none 0 0,.pointer (some ⟨w.heap.size,0,none⟩),.string x,undef,.string s,
   .func (.func 184) #[] #[.pointer (some ⟨w.heap.size+2,0,none⟩),.pointer (some ⟨w.heap.size+1,0,none⟩),.pointer (some ⟨w.heap.size+3,0,none⟩)],.string x,undef,undef,undef,undef,undef,undef,undef,undef,undef,undef],defers:=[]}) ?assign ?body ?done ?stop
 case assign=>
  intro l x W K hK
  gi_wp2
  exact hK
 case body=>
  intro l pre x rest W hx hI hge
  have hxm:x∈cutV s 10:=by rw[hx];simp
  have hxs:x.size≤s.size:=cuts_size _ _ _ _ _ x hxm
  have hpl:pre.length≤s.size:=by
   have h1:=cuts_len s 10 s.size 0 0
   have h2:(cutV s 10).length=pre.length+(rest.length+1):=by rw[hx];simp
   unfold cutV at h2
   omega
  obtain⟨v,hv,hrec⟩:=hI.out
  gi_wp2
  refine⟨trivial,(CallsIn.inRound l (callsIn_wide.2 (fields_any x _ (by omega)))).mono ?_⟩
  rintro e W2⟨fv,rfl,hown,hbel⟩
  have hs2:=hbel.size
  have hv2:Boxed W2 w.heap.size 118 v:=(hbel.block _ hv.lt).trans hv
  have hrec2:=hrec.kept hbel
  have low2:=hI.low.trans (hbel.mono hI.low.size)
  have hlow:=hI.low.size
  have tn:Turns (fun k=>k=w.heap.size∨w.heap.size+6≤k) W W2:=.of_below hbel
  cases hfs:fieldsV x with
  |nil=>
   rw[hfs]at hown
   obtain⟨sa,sc,rfl⟩:=own_slice hown
   have HG:Hid (Keep (w.heap.size+1) (w'.heap.size+2) W W2∧RI w (pre++[x]) W2):=by
    refine⟨tn.keep hge (fun k h=>by omega),⟨⟨v,hv2,?_⟩,low2⟩⟩
    rw[rowsOf_snoc,show rowOf x=[]from by unfold rowOf;rw[hfs];rfl,List.append_nil];exact hrec2
   gi_wp2
   exact HG.out
  |cons f fs=>
   rw[hfs]at hown
   have hF:FAt W2 (w.heap.size+6) fv (f::fs):=by
    obtain⟨fa,fc,rfl,hfrow⟩:=strRow hown
    obtain⟨g2,rfl,hg1,hg2,hfc1,hfc2,⟨cur,hcur,hcc⟩,hfcell⟩:=hfrow (by simp)
    exact⟨g2,0,fc,cur,rfl,by omega,hcur,fun j hj=>by
     rw[Nat.zero_add,hcc j _ (List.getElem?_eq_getElem hj),List.getD_eq_getElem?_getD,List.getElem?_eq_getElem hj];rfl⟩
   obtain⟨L,hL,ho,hf⟩:=hrec2
   have hLl:L.length≤pre.length:=by
    have h1:=rowsOf_len pre
    have h2:=congrArg List.length hL
    rw[List.length_map]at h2
    omega
   have HOW:Hid (∀k,v.ownBlock=some k→w.heap.size+6≤k):=fun k e=>(ho.lt k e).1
   have HF:Hid (FAt W2 (w.heap.size+6) fv (f::fs)):=hF
   have HFF:Hid (∀q∈L,FAt W2 (w.heap.size+6) q.1 q.2):=hf
   have HL:Hid (L.map (·.2)=rowsOf pre):=hL
   have HO:Hid (W2.ownsRow (w.heap.size+6) 40 1 v L.length (L.map (·.1))):=ho
   have HRX:Hid (rowOf x=[f::fs]):=by unfold Hid rowOf;rw[hfs];rfl
   obtain⟨va,vc,rfl⟩:=own_slice ho
   obtain⟨fg,fo,fc,fcur,rfl,_⟩:=hF
   have cv:=hv2.cell
   have BV:Hid (Boxed W2 w.heap.size 118 (.slice va L.length vc)):=hv2
   clear hown hL ho hf hv hrec hxm hx hbel hfs hI hv2
   have t0:(0:Int)<(fs.length:Int)+1:=by omega
   gi_wp2_with(gi_at_builtin;refine wpListIn_append_own _ rfl _ _ 118 rfl (w.heap.size+6) 40 i0 (.slice none 0 0) 1 24 Tryz.underlying118 hi hz0 hy1 hz2 rfl (by decide) _ _ _ rfl (HO.out.alloc _) ⟨W2.heap.size,0,none⟩ 1 1 [.slice (some ⟨fg,fo,none⟩) (fs.length+1) fc] rfl rfl (cell_one_new _ _ _) (by simp[Value.oneCell']) (by unfold maxLen;omega) (by omega) (by simp;omega) ?_)
   intro v' w4 hown4 hgrow _
   obtain⟨va',vc',rfl⟩:=own_slice hown4
   have v4:Boxed w4 w.heap.size 118 (.slice va L.length vc):=(BV.out.alloc _).kept hgrow (fun e=>by have:=HOW.out _ e.symm;omega)
   have HR:Hid (Keep (w.heap.size+1) (w'.heap.size+2) W (w4.setCell ⟨w.heap.size,0,none⟩ (.slice va' (L.length+1) vc'))∧RI w (pre++[x]) (w4.setCell ⟨w.heap.size,0,none⟩ (.slice va' (L.length+1) vc'))):=by
    have t5:Turns (fun k=>k=w.heap.size∨w.heap.size+6≤k) W (w4.setCell ⟨w.heap.size,0,none⟩ (.slice va' (L.length+1) vc')):=
     ((tn.alloc _).trans (.of_grown hgrow (fun k e=>.inr (HOW.out k e)))).set w.heap.size _ (.inl rfl)
    have hal:∀o,Below W2.heap.size W2 (W2.alloc o):=fun o=>(Below.refl _ W2).alloc (Nat.le_refl _) _
    have hp:RowsAt w4 (w.heap.size+6) (.slice va' (L.length+1) vc') (rowsOf (pre++[x])):=by
     rw[rowsOf_snoc,HRX.out,←HL.out]
     exact RowsAt.push (fun q hq=>(HFF.out q hq).kept (hal _)) (HO.out.alloc _) (HF.out.kept (hal _)) hgrow hown4
    refine⟨t5.keep hge (fun k h=>by omega),⟨⟨_,v4.set _,?_⟩,?_⟩⟩
    ·exact hp.turns (Turns.set (D:=fun k=>k=w.heap.size) (Turns.refl _ w4) w.heap.size _ rfl) (fun k d=>by omega)
    ·have hl:Below w.heap.size w4 (w4.setCell ⟨w.heap.size,0,none⟩ (.slice va' (L.length+1) vc')):=(Turns.set (D:=fun k=>k=w.heap.size) (Turns.refl _ w4) w.heap.size _ rfl).below (by have:=v4.lt;omega) (fun k d=>by omega)
     have hl4:Below w.heap.size w w4:=(low2.alloc low2.size _).grown hgrow (by have:=low2.size;simp;omega) (fun k e=>by have:=HOW.out k e;omega)
     exact hl4.trans hl
   have c4:=v4.cell
   have f4:=v4.frozen
   clear hgrow hown4 v4 low2 tn
   gi_wp2
   exact HR.out
 case done=>
  intro W hI hd
  obtain⟨v,hv,hr⟩:=hI.out
  obtain⟨va,vc,rfl⟩:∃va vc,v=.slice va (rowsOf (cutV s 10)).length vc:=by
   obtain⟨L,hL,ho,_⟩:=hr
   rw[←hL,List.length_map]
   exact own_slice ho
  have HT:Hid (RowsAt (W.putObj w'.heap.size (.deferred none)) w.heap.size (.slice va (rowsOf (cutV s 10)).length vc) (rowsOf (cutV s 10))∧Below w.heap.size w (W.putObj w'.heap.size (.deferred none))):=by
   have tp:Turns (fun k=>k=w'.heap.size) W (W.putObj w'.heap.size (.deferred none)):=Turns.put (D:=fun k=>k=w'.heap.size) (Turns.refl _ W) w'.heap.size _ rfl
   exact⟨(hr.turns tp (fun k d=>by omega)).lower (by omega),hI.low.trans (tp.below hI.low.size (fun k d=>by omega))⟩
  have c3:=hv.cell
  clear hI hv hr
  gi_wp2
  refine⟨by simp,.inl ⟨_,_,rfl,run_takeDeferred hd,?_⟩⟩
  refine⟨_,results_tmp (t:=2) rfl _ _ _,.slice va (rowsOf (cutV s 10)).length vc,rfl,HT.out⟩
 case stop=>
  intro pre W hI hd
  exact hI.elim
end Go.Proofs.YtbbeciofgnkggaaGreatDoor.lin
