import Derived.Test.YtbbeciofgnkggaaGreatDoorBqLin1
import Derived.WalkSmall
import Derived.Deep.LoopGhost
import Derived.Lib.OthersKept
import Derived.Maps.AppendAt
import Derived.Lib.IndexMore
import Derived.OwnWalk
import Derived.Laws.ResultCell
import Derived.Handy
set_option linter.unusedSimpArgs false
set_option linter.unusedVariables false
set_option maxRecDepth 100000
set_option maxHeartbeats 2000000
namespace Go.Proofs.YtbbeciofgnkggaaGreatDoor.lin
open Go.RowKit
def scan(s:ByteArray):Nat→Nat→Nat→List ByteArray→List ByteArray×Nat×Nat
 |0,_,st,out=>(out,st,s.size)
 |k+1,p,st,out=>if at8 s p=35 then(out,st,p)else if at8 s p=59 then scan s k (p+1) (p+1) (out++[trim (s.extract st p)])else scan s k (p+1) st out
/--A line's fields. -/
def close(s:ByteArray)(x:List ByteArray×Nat×Nat):List ByteArray:=if x.1.length=0∧(trim (s.extract x.2.1 x.2.2)).size=0 then[]else x.1++[trim (s.extract x.2.1 x.2.2)]
def fieldsV(s:ByteArray):List ByteArray:=close s (scan s s.size 0 0 [])
theorem scan_hash(s:ByteArray)(k p st:Nat)(out:List ByteArray)(hk:k≠0)(h:at8 s p=35):scan s k p st out=(out,st,p):=by
 cases k with
 |zero=>omega
 |succ k=>rw[scan,if_pos h]
theorem scan_semi(s:ByteArray)(k p st:Nat)(out:List ByteArray)(hk:k≠0)(h:at8 s p=59):scan s k p st out=scan s (k-1) (p+1) (p+1) (out++[trim (s.extract st p)]):=by
 cases k with
 |zero=>omega
 |succ k=>rw[scan,if_neg (by omega),if_pos h];rfl
theorem scan_else(s:ByteArray)(k p st:Nat)(out:List ByteArray)(hk:k≠0)(h:at8 s p≠35)(h':at8 s p≠59):scan s k p st out=scan s (k-1) (p+1) st out:=by
 cases k with
 |zero=>omega
 |succ k=>rw[scan,if_neg h,if_neg h'];rfl
theorem scan_skip(s:ByteArray):∀q p st out,(∀j,p≤j→j<p+q→j<s.size→128≤at8 s j)→scan s (s.size-p) p st out=scan s (s.size-(p+q)) (p+q) st out:=by
 intro q
 induction q with
 |zero=>intro p st out _;rfl
 |succ q ih=>
  intro p st out h
  rcases Nat.lt_or_ge p s.size with hp|hp
  ·have h0:=h p (Nat.le_refl _) (by omega) hp
   rw[scan_else s (s.size-p) p st out (by omega) (by omega) (by omega),show s.size-p-1=s.size-(p+1)from by omega,ih (p+1) st out (fun j a b c=>h j (by omega) (by omega) c)]
   rw[show p+1+q=p+(q+1)from by omega]
  ·rw[show s.size-p=0 from by omega,show s.size-(p+(q+1))=0 from by omega]
   rfl
theorem get_at8(s:ByteArray)(j:Nat)(h:j<s.size):((s.get! j).toNat:Int)=at8 s j:=by
 rw[at8_eq s j h]
 have:s.get! j=s[j]'h:=by simp[ByteArray.get!,getElem!_pos,h];rfl
 rw[this]
theorem decode_tail(s:ByteArray)(p j:Nat)(h1:p<j)(h2:j<p+(Utf8.decode s p).2):128≤(s.get! j).toNat:=by
 simp only[Utf8.decode]at h2
 repeat' split at h2
 all_goals simp only[Bool.and_eq_true,decide_eq_true_eq,beq_iff_eq]at*
 all_goals(rcases(show j=p+1∨j=p+2∨j=p+3 from by omega)with rfl|rfl|rfl<;>omega)
theorem infoStr:(Tryz.prog.info? 9).map (fun i=>(i.zero,i.size,i.bytes))=some (some (.string ByteArray.empty),1,16):=by kernel_rfl
/--The end of fieldsOf, as lemmas over the list: what is answered. -/
theorem own_below{w w':World}{B e size n:Nat}{v:Value}{xs:List Value}(h:w.ownsRow B e size v n xs)(hb:Below w.heap.size w w'):w'.ownsRow B e size v n xs:=by
 refine⟨h.1,?_⟩
 rcases h.2 with hn|⟨g,cap,cur,rfl,hg,hgg,rest⟩
 ·exact .inl hn
 ·exact .inr ⟨g,cap,cur,rfl,hg,by rw[hb.block g (Array.getElem?_eq_some_iff.1 hgg).1];exact hgg,rest⟩
theorem own_slice{w:World}{B e size n:Nat}{v:Value}{xs:List Value}(h:w.ownsRow B e size v n xs):∃a c,v=.slice a n c:=by
 rcases h.2 with hn|⟨g,cap,cur,rfl,_⟩
 ·obtain⟨rfl,rfl⟩:=hn;exact⟨_,_,rfl⟩
 ·exact⟨_,_,rfl⟩
theorem isEmpty_of{t:ByteArray}(h:t.size=0):t.toList.isEmpty=true:=by
 rw[Lib.toList_data]
 have:t.data.toList=[]:=List.eq_nil_of_length_eq_zero (by rw[Array.length_toList];exact h)
 rw[this];rfl
theorem isEmpty_not{t:ByteArray}(h:¬t.size=0):t.toList.isEmpty=false:=by
 rw[Lib.toList_data]
 cases hl:t.data.toList with
 |nil=>exact absurd (by show t.data.size=0;rw[←Array.length_toList,hl];rfl) h
 |cons x l=>rfl
theorem close_nil{s:ByteArray}{out:List ByteArray}{st en:Nat}(h0:out.length=0)(ht:(trim (s.extract st en)).size=0):close s (out,st,en)=[]:=by
 unfold close;rw[if_pos ⟨h0,ht⟩]
theorem close_more{s:ByteArray}{out:List ByteArray}{st en:Nat}(h:¬(out.length=0∧(trim (s.extract st en)).size=0)):close s (out,st,en)=out++[trim (s.extract st en)]:=by
 unfold close;rw[if_neg h]
theorem fields_any(s:ByteArray)(w:World)(hs:s.size≤1099511627776):
  Calls Tryz.prog 177 #[.string s] w fun e w'=>∃v,e=.returned v∧w'.ownsRow (w.heap.size+1) 9 1 v (fieldsV s).length ((fieldsV s).map Value.string)∧Below w.heap.size w w':=by
 obtain⟨i0,hi,hz0,hy1,hz2⟩:=info_parts infoStr
 go_enter Tryz.func177,Tryz.ntmps177
 go_wp2
 go_step3
 go_wp2
 go_step3
 go_wp2
 go_loopg[3,4,5]s.size(fun k v t e wr=>∃(p st:Nat)(out:List ByteArray),k=s.size-p∧t=.int .i64 st∧e=.int .i64 s.size∧st≤s.size∧st≤p∧out.length≤st∧Hid (wr.heap[w.heap.size]?=some (.stringIter s p))∧wr.ownsRow (w.heap.size+1) 9 1 v out.length (out.map Value.string)∧Hid (scan s (s.size-p) p st out=scan s s.size 0 0 [])∧Below w.heap.size w wr)
 case atStart=>exact⟨0,0,[],by omega,rfl,rfl,Nat.zero_le _,Nat.le_refl _,Nat.le_refl _,World.iter_heap w s 0,World.ownsRow_nil _ _ _ _,rfl,(Below.refl _ _).alloc (Nat.le_refl _) _⟩
 case round=>
  obtain⟨p,st,out,hgk,rfl,rfl,hst,hsp,hol,HIT,hown,HSC,hbel⟩:=hrel
  have HGK:Hid (gk=s.size-p):=hgk
  clear hgk
  obtain⟨sa,sc,rfl⟩:=own_slice hown
  by_cases hp:p<s.size
  ·have he:=at8_eq s p hp
   have hit2:=Lib.iterAt_heap wr w.heap.size s p (p+(Utf8.decode s p).2) HIT.out
   have hb2:=Lib.below_iterAt hbel (k:=w.heap.size) (Nat.le_refl _) s (p+(Utf8.decode s p).2)
   have hown2:=ownsRow_iterAt hown (k:=w.heap.size) (by omega) s (p+(Utf8.decode s p).2)
   have hsz2:(wr.iterAt w.heap.size s (p+(Utf8.decode s p).2)).heap.size=wr.heap.size:=Lib.iterAt_size _ _ _ _
   have hnx:=fun ty=>Lib.run_next_any_at (P:=Tryz.prog) wr w.heap.size s p ty HIT.out hp
   by_cases ha:(s[p]'hp).toNat<128
   ·rw[decode_ascii s p hp ha]at hnx hit2 hb2 hown2 hsz2
    by_cases h35:(s[p]'hp).toNat=35
    ·have t1:((((s[p]'hp).toNat:Nat):Int)==35)=true:=by simp;omega
     have HS2:Hid (fieldsV s=close s (out,st,p)):=by
      unfold Hid fieldsV;rw[←HSC.out,scan_hash s _ p st out (by omega) (by rw[he];omega)]
     have TM:=trimmed_any (s.extract st p) (wr.iterAt w.heap.size s (p+1)) (by rw[ByteArray.size_extract];omega)
     have hlt:w.heap.size<(wr.iterAt w.heap.size s (p+1)).heap.size:=(Array.getElem?_eq_some_iff.1 hit2).1
     clear HSC hown hbel he hit2 HIT
     generalize hr:(s[p]'hp).toNat=r at*
     clear hr
     generalize hW:wr.iterAt w.heap.size s (p+1)=W at*
     go_wp2_with fail
     refine TM.mono ?_
     rintro e w2⟨rfl,hb3⟩
     have b3:=hb2.trans (hb3.mono hb2.size)
     have hown3:=own_below hown2 hb3
     have hs3:=b3.size
     have hbs:=hb3.size
     have hit3:w.heap.size+1≤w2.heap.size:=by omega
     have HCN:=@close_nil s out st p
     have HCM:=@close_more s out st p
     have HC1:Hid (out.length=0→(trim (s.extract st p)).size=0→close s (out,st,p)=[]):=fun a b=>close_nil a b
     have HC2:Hid (¬(out.length=0∧(trim (s.extract st p)).size=0)→close s (out,st,p)=out++[trim (s.extract st p)]):=fun a=>close_more a
     clear TM hb3 hb2 hown2 HCN HCM
     generalize trim (s.extract st p)=t at*
     by_cases hz:out.length=0∧t.size=0
     ·have z1:((out.length:Int)==0)=true:=by rw[hz.1];rfl
      have z2:t.toList.isEmpty=true:=isEmpty_of hz.2
      have HF:Hid (fieldsV s=[]):=HS2.out.trans (HC1.out hz.1 hz.2)
      clear hz HC1 HC2 hown3
      go_wp2
      try rw[Exit.noGoto_ret]
      go_ret
      exact⟨_,rfl,by rw[HF.out];exact World.ownsRow_nil _ _ _ _,b3⟩
     ·have HF:Hid (fieldsV s=out++[t]):=HS2.out.trans (HC2.out hz)
      clear HC1 HC2
      have HW:Hid (∀k,(Value.slice sa out.length sc).ownBlock=some k→w.heap.size+1≤k):=fun k e=>(hown3.lt _ e).1
      by_cases hz1:out.length=0
      ·have z1:((out.length:Int)==0)=true:=by rw[hz1];rfl
       have z2:t.toList.isEmpty=false:=isEmpty_not (fun h=>hz ⟨hz1,h⟩)
       clear hz hz1
       go_wp2_with(at_builtin;refine wpList_append_own _ rfl _ _ 40 rfl (w.heap.size+1) 9 i0 (.string ByteArray.empty) 1 16 Tryz.underlying40 hi hz0 hy1 hz2 rfl (by decide) _ _ _ rfl (hown3.alloc _) ⟨w2.heap.size,0,none⟩ 1 1 [.string t] rfl rfl (cell_one_new _ _ _) (by simp[Value.oneCell']) (by unfold maxLen;omega) (by omega) (by simp;omega) ?_)
       intro v' w3 hown4 hgrow _
       have R1:=(b3.alloc hs3 (.cells #[.string t] 9)).grown hgrow (by simp;omega) (fun k e=>by have:=HW.out k e;omega)
       clear hgrow hown3
       go_wp2
       try rw[Exit.noGoto_ret]
       go_ret
       exact⟨_,rfl,by rw[HF.out,List.length_append,List.map_append];exact hown4,R1⟩
      ·have z1:((out.length:Int)==0)=false:=by rw[beq_eq_false_iff_ne];omega
       clear hz
       go_wp2_with(at_builtin;refine wpList_append_own _ rfl _ _ 40 rfl (w.heap.size+1) 9 i0 (.string ByteArray.empty) 1 16 Tryz.underlying40 hi hz0 hy1 hz2 rfl (by decide) _ _ _ rfl (hown3.alloc _) ⟨w2.heap.size,0,none⟩ 1 1 [.string t] rfl rfl (cell_one_new _ _ _) (by simp[Value.oneCell']) (by unfold maxLen;omega) (by omega) (by simp;omega) ?_)
       intro v' w3 hown4 hgrow _
       have R1:=(b3.alloc hs3 (.cells #[.string t] 9)).grown hgrow (by simp;omega) (fun k e=>by have:=HW.out k e;omega)
       clear hgrow hown3
       go_wp2
       try rw[Exit.noGoto_ret]
       go_ret
       exact⟨_,rfl,by rw[HF.out,List.length_append,List.map_append];exact hown4,R1⟩
    ·by_cases h59:(s[p]'hp).toNat=59
     ·have t1:((((s[p]'hp).toNat:Nat):Int)==35)=false:=by simp;omega
      have t2:((((s[p]'hp).toNat:Nat):Int)==59)=true:=by simp;omega
      have HS2:Hid (scan s (s.size-(p+1)) (p+1) (p+1) (out++[trim (s.extract st p)])=scan s s.size 0 0 []):=by
       have:=scan_semi s (s.size-p) p st out (by omega) (by rw[he];omega)
       rw[show s.size-p-1=s.size-(p+1)from by omega]at this
       exact this.symm.trans HSC.out
      have HT2:Hid ((wr.iterAt w.heap.size s (p+1)).heap[w.heap.size]?=some (.stringIter s (p+1))):=hit2
      have TM:=trimmed_any (s.extract st p) (wr.iterAt w.heap.size s (p+1)) (by rw[ByteArray.size_extract];omega)
      clear hit2 HSC hown hbel he HIT
      generalize hr:(s[p]'hp).toNat=r at*
      clear hr
      generalize hW:wr.iterAt w.heap.size s (p+1)=W at*
      clear hW
      go_wp2_with fail
      refine TM.mono ?_
      rintro e w2⟨rfl,hb3⟩
      have b3:=hb2.trans (hb3.mono hb2.size)
      have hown3:=own_below hown2 hb3
      have hs3:=b3.size
      have hlt:=(Array.getElem?_eq_some_iff.1 HT2.out).1
      have hit3:w.heap.size+1≤w2.heap.size:=by have:=hb3.size;omega
      have HT3:Hid (w2.heap[w.heap.size]?=some (.stringIter s (p+1))):=(hb3.block _ hlt).trans HT2.out
      have HW:Hid (∀k,(Value.slice sa out.length sc).ownBlock=some k→w.heap.size+1≤k):=fun k e=>(hown3.lt _ e).1
      clear TM hb3 hb2 hown2 HT2
      generalize trim (s.extract st p)=t at*
      go_wp2_with(at_builtin;refine wpList_append_own _ rfl _ _ 40 rfl (w.heap.size+1) 9 i0 (.string ByteArray.empty) 1 16 Tryz.underlying40 hi hz0 hy1 hz2 rfl (by decide) _ _ _ rfl (hown3.alloc _) ⟨w2.heap.size,0,none⟩ 1 1 [.string t] rfl rfl (cell_one_new _ _ _) (by simp[Value.oneCell']) (by unfold maxLen;omega) (by omega) (by simp;omega) ?_)
      intro v' w3 hown4 hgrow _
      have R1:=(b3.alloc hs3 (.cells #[.string t] 9)).grown hgrow (by simp;omega) (fun k e=>by have:=HW.out k e;omega)
      have R2:Hid (w3.heap[w.heap.size]?=some (.stringIter s (p+1))):=by
       refine(hgrow.block w.heap.size (by simp;omega) (fun e=>by have:=HW.out _ e.symm;omega)).trans ?_
       rw[Below.heap_alloc _ _ _ (by omega)]
       exact HT3.out
      have R3:w3.ownsRow (w.heap.size+1) 9 1 v' (out++[t]).length ((out++[t]).map Value.string):=by
       rw[List.length_append,List.map_append];exact hown4
      clear hgrow hown3 hown4 HT3
      go_wp2
      go_roundg(s.size-(p+1))
      case measure=>have:=HGK.out;omega
      case rel=>exact⟨p+1,p+1,out++[t],rfl,by go_num,rfl,by omega,Nat.le_refl _,by simp;omega,R2,R3,HS2,R1⟩
     ·have HS2:Hid (scan s (s.size-(p+1)) (p+1) st out=scan s s.size 0 0 []):=by
       have:=scan_else s (s.size-p) p st out (by omega) (by rw[he];omega) (by rw[he];omega)
       rw[show s.size-p-1=s.size-(p+1)from by omega]at this
       exact this.symm.trans HSC.out
      have HT2:Hid ((wr.iterAt w.heap.size s (p+1)).heap[w.heap.size]?=some (.stringIter s (p+1))):=hit2
      have t1:((((s[p]'hp).toNat:Nat):Int)==35)=false:=by simp;omega
      have t2:((((s[p]'hp).toNat:Nat):Int)==59)=false:=by simp;omega
      clear hit2 HSC hown hbel he HIT
      generalize hr:(s[p]'hp).toNat=r at*
      clear hr
      generalize hW:wr.iterAt w.heap.size s (p+1)=W at*
      go_wp2
      go_roundg(s.size-(p+1))
      case measure=>have:=HGK.out;omega
      case rel=>exact⟨p+1,st,out,rfl,rfl,rfl,hst,by omega,hol,HT2,hown2,HS2,hb2⟩
   ·have hge:=decode_high s p hp (by omega)
    have HS2:Hid (scan s (s.size-(p+(Utf8.decode s p).2)) (p+(Utf8.decode s p).2) st out=scan s s.size 0 0 []):=by
     refine(scan_skip s (Utf8.decode s p).2 p st out (fun j h1 h2 h3=>?_)).symm.trans HSC.out
     rcases Nat.eq_or_lt_of_le h1 with rfl|h4
     ·rw[he];omega
     ·have:=decode_tail s p j h4 h2
      have e:=get_at8 s j h3
      omega
    have HT2:Hid ((wr.iterAt w.heap.size s (p+(Utf8.decode s p).2)).heap[w.heap.size]?=some (.stringIter s (p+(Utf8.decode s p).2))):=hit2
    have t1:(((Utf8.decode s p).1:Int)==35)=false:=by simp;omega
    have t2:(((Utf8.decode s p).1:Int)==59)=false:=by simp;omega
    obtain⟨_,hq⟩:=hge
    clear hit2 HSC hown hbel he
    generalize hr:(Utf8.decode s p).1=r at*
    generalize hqq:(Utf8.decode s p).2=q at*
    clear hr hqq
    generalize hW:wr.iterAt w.heap.size s (p+q)=W at*
    go_wp2
    go_roundg(s.size-(p+q))
    case measure=>have:=HGK.out;omega
    case rel=>exact⟨p+q,st,out,rfl,rfl,rfl,hst,by omega,hol,HT2,hown2,HS2,hb2⟩
  ·have hnx:=fun ty=>Lib.run_next_end_at (P:=Tryz.prog) wr w.heap.size s p ty HIT.out hp
   have HS2:Hid (fieldsV s=close s (out,st,s.size)):=by
    unfold Hid fieldsV;rw[←HSC.out,show s.size-p=0 from by omega];rfl
   have TM:=trimmed_any (s.extract st s.size) wr (by rw[ByteArray.size_extract];omega)
   have hb2:=hbel
   have hown2:=hown
   have hlt:w.heap.size<wr.heap.size:=(Array.getElem?_eq_some_iff.1 HIT.out).1
   clear HSC HIT hbel hown
   go_wp2_with fail
   refine TM.mono ?_
   rintro e w2⟨rfl,hb3⟩
   have b3:=hb2.trans (hb3.mono hb2.size)
   have hown3:=own_below hown2 hb3
   have hs3:=b3.size
   have hbs:=hb3.size
   have hit3:w.heap.size+1≤w2.heap.size:=by omega
   have HCN:=@close_nil s out st s.size
   have HCM:=@close_more s out st s.size
   have HC1:Hid (out.length=0→(trim (s.extract st s.size)).size=0→close s (out,st,s.size)=[]):=fun a b=>close_nil a b
   have HC2:Hid (¬(out.length=0∧(trim (s.extract st s.size)).size=0)→close s (out,st,s.size)=out++[trim (s.extract st s.size)]):=fun a=>close_more a
   clear TM hb3 hb2 hown2 HCN HCM
   generalize trim (s.extract st s.size)=t at*
   by_cases hz:out.length=0∧t.size=0
   ·have z1:((out.length:Int)==0)=true:=by rw[hz.1];rfl
    have z2:t.toList.isEmpty=true:=isEmpty_of hz.2
    have HF:Hid (fieldsV s=[]):=HS2.out.trans (HC1.out hz.1 hz.2)
    clear hz HC1 HC2 hown3
    go_wp2
    try rw[Exit.noGoto_ret]
    go_ret
    exact⟨_,rfl,by rw[HF.out];exact World.ownsRow_nil _ _ _ _,b3⟩
   ·have HF:Hid (fieldsV s=out++[t]):=HS2.out.trans (HC2.out hz)
    clear HC1 HC2
    have HW:Hid (∀k,(Value.slice sa out.length sc).ownBlock=some k→w.heap.size+1≤k):=fun k e=>(hown3.lt _ e).1
    by_cases hz1:out.length=0
    ·have z1:((out.length:Int)==0)=true:=by rw[hz1];rfl
     have z2:t.toList.isEmpty=false:=isEmpty_not (fun h=>hz ⟨hz1,h⟩)
     clear hz hz1
     go_wp2_with(at_builtin;refine wpList_append_own _ rfl _ _ 40 rfl (w.heap.size+1) 9 i0 (.string ByteArray.empty) 1 16 Tryz.underlying40 hi hz0 hy1 hz2 rfl (by decide) _ _ _ rfl (hown3.alloc _) ⟨w2.heap.size,0,none⟩ 1 1 [.string t] rfl rfl (cell_one_new _ _ _) (by simp[Value.oneCell']) (by unfold maxLen;omega) (by omega) (by simp;omega) ?_)
     intro v' w3 hown4 hgrow _
     have R1:=(b3.alloc hs3 (.cells #[.string t] 9)).grown hgrow (by simp;omega) (fun k e=>by have:=HW.out k e;omega)
     clear hgrow hown3
     go_wp2
     try rw[Exit.noGoto_ret]
     go_ret
     exact⟨_,rfl,by rw[HF.out,List.length_append,List.map_append];exact hown4,R1⟩
    ·have z1:((out.length:Int)==0)=false:=by rw[beq_eq_false_iff_ne];omega
     clear hz
     go_wp2_with(at_builtin;refine wpList_append_own _ rfl _ _ 40 rfl (w.heap.size+1) 9 i0 (.string ByteArray.empty) 1 16 Tryz.underlying40 hi hz0 hy1 hz2 rfl (by decide) _ _ _ rfl (hown3.alloc _) ⟨w2.heap.size,0,none⟩ 1 1 [.string t] rfl rfl (cell_one_new _ _ _) (by simp[Value.oneCell']) (by unfold maxLen;omega) (by omega) (by simp;omega) ?_)
     intro v' w3 hown4 hgrow _
     have R1:=(b3.alloc hs3 (.cells #[.string t] 9)).grown hgrow (by simp;omega) (fun k e=>by have:=HW.out k e;omega)
     clear hgrow hown3
     go_wp2
     try rw[Exit.noGoto_ret]
     go_ret
     exact⟨_,rfl,by rw[HF.out,List.length_append,List.map_append];exact hown4,R1⟩
end Go.Proofs.YtbbeciofgnkggaaGreatDoor.lin
namespace Go.Proofs.YtbbeciofgnkggaaGreatDoor.lin
open Go.RowKit
end Go.Proofs.YtbbeciofgnkggaaGreatDoor.lin
namespace Go.Proofs.YtbbeciofgnkggaaGreatDoor.lin
open Go.RowKit
def firstV(s:ByteArray):ByteArray:=⟨(Lib.cut s.data.toList [46,46]).1.toArray⟩
def secondV(s:ByteArray):ByteArray:=if(Lib.cut s.data.toList [46,46]).2.2 then⟨(Lib.cut s.data.toList [46,46]).2.1.toArray⟩else firstV s
def boundsB(s:ByteArray):Bool:=hexB (firstV s)&&hexB (secondV s)&&decide (hexN (firstV s)≤hexN (secondV s))
def boundsLo(s:ByteArray):Int:=if boundsB s then hexN (firstV s)else 0
def boundsHi(s:ByteArray):Int:=if boundsB s then hexN (secondV s)else 0
theorem below_drewN{w:World}(n:Nat):Below w.heap.size w (w.drewN n):=by
 induction n generalizing w with
 |zero=>exact Below.refl _ _
 |succ n ih=>exact ih.drew
end Go.Proofs.YtbbeciofgnkggaaGreatDoor.lin
namespace Go.Proofs.YtbbeciofgnkggaaGreatDoor.lin
open Go.RowKit
def recB(fs:List ByteArray):Bool:=decide (2≤fs.length)&&boundsB (fs.headD ByteArray.empty)
def recAgg(fs:List ByteArray)(g cap:Nat):Value:=
 if recB fs then .agg #[.int .i64 (boundsLo (fs.headD ByteArray.empty)),.int .i64 (boundsHi (fs.headD ByteArray.empty)),.slice (some ⟨g,1,none⟩) (fs.length-1) (cap-1)]else .agg #[.int .i64 0,.int .i64 0,.slice none 0 0]
end Go.Proofs.YtbbeciofgnkggaaGreatDoor.lin
namespace Go.Proofs.YtbbeciofgnkggaaGreatDoor.lin
open Go.RowKit
def FAt(w:World)(base:Nat)(v:Value)(fs:List ByteArray):Prop:=
 ∃g off cap cur,v=.slice (some ⟨g,off,none⟩) fs.length cap∧base≤g∧w.heap[g]?=some (.cells cur 9 (0,0))∧∀j,j<fs.length→cur[off+j]?=some (.string (fs.getD j ByteArray.empty))
theorem FAt.lower{w:World}{base base2:Nat}{v:Value}{fs:List ByteArray}(h:FAt w base2 v fs)(hb:base≤base2):FAt w base v fs:=by
 obtain⟨g,off,cap,cur,rfl,hg,rest⟩:=h
 exact⟨g,off,cap,cur,rfl,by omega,rest⟩
theorem FAt.kept{A B:World}{base:Nat}{v:Value}{fs:List ByteArray}(h:FAt A base v fs)(hb:Below A.heap.size A B):FAt B base v fs:=by
 obtain⟨g,off,cap,cur,rfl,hg,hgg,hc⟩:=h
 exact⟨g,off,cap,cur,rfl,hg,(hb.block g (Array.getElem?_eq_some_iff.1 hgg).1).trans hgg,hc⟩
theorem own_typed{w:World}{base e size n:Nat}{v:Value}{xs:List Value}(ho:w.ownsRow base e size v n xs):∀k,v.ownBlock=some k→∃cur,w.heap[k]?=some (.cells cur e (0,0)):=by
 intro k e
 rcases ho.2 with hn|⟨g',cap',cur',hv',h1,h2,_⟩
 ·rw[hn.1]at e;cases e
 ·rw[hv']at e;cases e;exact⟨_,h2⟩
/--A record: its bounds, its fields' value, its fields. -/
structure RR where
 lo:Int
 hi:Int
 fv:Value
 fs:List ByteArray
abbrev RecT:=Int×Int×List ByteArray
def RR.plain(q:RR):RecT:=(q.lo,q.hi,q.fs)
def flatR(L:List RR):List Value:=L.flatMap fun q=>[.int .i64 q.lo,.int .i64 q.hi,q.fv]
/--A line says nothing, or a record. -/
def lineOk(x:ByteArray):Bool:=(fieldsV x).length==0||recB (fieldsV x)
def recV(fs:List ByteArray):RecT:=(boundsLo (fs.headD ByteArray.empty),boundsHi (fs.headD ByteArray.empty),fs.tail)
def lineRecs(x:ByteArray):List RecT:=if(fieldsV x).length=0 then[]else[recV (fieldsV x)]
def recsOf(ls:List ByteArray):List RecT:=ls.flatMap lineRecs
/--What a file says: its records, or the number of the first line that can't be, and the error. -/
def parseV(s:ByteArray):List RecT×Nat×Int:=
 if(cutV s 10).all lineOk then(recsOf (cutV s 10),0,0)else([],(cutV s 10).findIdx (fun x=>!lineOk x)+1,20)
theorem cuts_len(s:ByteArray)(b:Int):∀k p a,(cuts s b k p a).length≤k+1:=by
 intro k
 induction k with
 |zero=>intro p a;simp[cuts]
 |succ k ih=>
  intro p a
  rw[cuts]
  split
  ·have:=ih (p+1) (p+1);simp;omega
  ·have:=ih (p+1) a;omega
theorem cuts_size(s:ByteArray)(b:Int):∀k p a,∀x∈cuts s b k p a,x.size≤s.size:=by
 intro k
 induction k with
 |zero=>intro p a x hx;simp[cuts]at hx;subst hx;rw[ByteArray.size_extract];omega
 |succ k ih=>
  intro p a x hx
  rw[cuts]at hx
  split at hx
  ·rcases List.mem_cons.1 hx with rfl|hx
   ·rw[ByteArray.size_extract];omega
   ·exact ih _ _ x hx
  ·exact ih _ _ x hx
end Go.Proofs.YtbbeciofgnkggaaGreatDoor.lin
namespace Go.Proofs.YtbbeciofgnkggaaGreatDoor.lin
open Go.RowKit
def BA(l:List UInt8):ByteArray:=⟨l.toArray⟩
theorem BA_list(s:ByteArray):BA s.data.toList=s:=rfl
theorem BA_data(l:List UInt8):(BA l).data.toList=l:=rfl
theorem BA_size(l:List UInt8):(BA l).size=l.length:=rfl
theorem size_list(s:ByteArray):s.data.toList.length=s.size:=Array.length_toList
/--A list ahead of the first of lists. -/
def glue(x:List UInt8):List (List UInt8)→List (List UInt8)
 |[]=>[x]
 |h::t=>(x++h)::t
/--The parts of a list between a byte. -/
def cutL(b:UInt8):List UInt8→List (List UInt8)
 |[]=>[[]]
 |x::l=>if x=b then[]::cutL b l else glue [x] (cutL b l)
theorem glue_glue(x y:List UInt8)(L:List (List UInt8)):glue x (glue y L)=glue (x++y) L:=by
 cases L<;>simp[glue]
theorem cutL_ne(b:UInt8)(l:List UInt8):cutL b l≠[]:=by
 cases l with
 |nil=>simp[cutL]
 |cons x l=>
  rw[cutL];split
  ·simp
  ·cases cutL b l<;>simp[glue]
theorem glue_nil{L:List (List UInt8)}(h:L≠[]):glue [] L=L:=by
 cases L with
 |nil=>exact absurd rfl h
 |cons h t=>rfl
theorem drop_cons(s:ByteArray)(p:Nat)(h:p<s.size):s.data.toList.drop p=s[p]'h::s.data.toList.drop (p+1):=by
 rw[List.drop_eq_getElem_cons (by rw[size_list];exact h)]
 rfl
theorem ext_list(s:ByteArray)(a p:Nat):s.extract a p=BA ((s.data.toList.drop a).take (p-a)):=by
 apply ByteArray.ext
 show(s.extract a p).data=((s.data.toList.drop a).take (p-a)).toArray
 rw[ByteArray.data_extract]
 apply Array.ext'
 rw[Array.toList_extract]
theorem take_snoc(s:ByteArray)(a p:Nat)(h:p<s.size)(ha:a≤p):(s.data.toList.drop a).take (p+1-a)=(s.data.toList.drop a).take (p-a)++[s[p]'h]:=by
 rw[show p+1-a=p-a+1 from by omega,List.take_add_one]
 congr 1
 rw[List.getElem?_drop,show a+(p-a)=p from by omega,List.getElem?_eq_getElem (by rw[size_list];exact h)]
 rfl
theorem cuts_list(s:ByteArray)(b:UInt8):∀k p a,p+k=s.size→a≤p→cuts s (b.toNat:Int) k p a=(glue ((s.data.toList.drop a).take (p-a)) (cutL b (s.data.toList.drop p))).map BA:=by
 intro k
 induction k with
 |zero=>
  intro p a hp ha
  rw[show s.data.toList.drop p=[]from List.drop_eq_nil_of_le (by rw[size_list];omega)]
  show[s.extract a s.size]=[BA ((s.data.toList.drop a).take (p-a)++[])]
  rw[ext_list,List.append_nil,show p=s.size from by omega]
 |succ k ih=>
  intro p a hp ha
  have hlt:p<s.size:=by omega
  rw[cuts,at8_eq s p hlt,drop_cons s p hlt,cutL]
  by_cases hb:s[p]'hlt=b
  ·rw[if_pos (by rw[hb]),if_pos hb,ih (p+1) (p+1) (by omega) (Nat.le_refl _),ext_list,Nat.sub_self,List.take_zero,glue_nil (cutL_ne _ _)]
   simp[glue]
  ·rw[if_neg (fun e=>hb (UInt8.toNat_inj.1 (by omega))),if_neg hb,ih (p+1) a (by omega) (by omega),take_snoc s a p hlt ha,glue_glue]
theorem cutV_list(s:ByteArray)(b:UInt8):cutV s (b.toNat:Int)=(cutL b s.data.toList).map BA:=by
 unfold cutV
 rw[cuts_list s b s.size 0 0 (by omega) (Nat.le_refl _),Nat.sub_self,List.take_zero,List.drop_zero,glue_nil (cutL_ne _ _)]
theorem cutL_one(b:UInt8):∀(l x:List UInt8),cutL b l=[x]→x=l:=by
 intro l
 induction l with
 |nil=>intro x h;simpa[cutL]using h
 |cons z l ih=>
  intro x h
  rw[cutL]at h
  split at h
  ·simp at h;exact absurd h.2 (cutL_ne _ _)
  ·cases hc:cutL b l with
   |nil=>exact absurd hc (cutL_ne _ _)
   |cons h0 t=>
    rw[hc]at h
    simp[glue]at h
    obtain⟨rfl,rfl⟩:=h
    rw[ih h0 hc]
def blank(b:UInt8):Bool:=[32,9].contains b
def trimL(l:List UInt8):List UInt8:=Lib.trimS l [32,9]
theorem trim_BA(l:List UInt8):trim (BA l)=BA (trimL l):=rfl
theorem trimL_eq(l:List UInt8):trimL l=((l.reverse.dropWhile blank).reverse).dropWhile blank:=rfl
theorem trimL_cons(x:UInt8)(l:List UInt8)(h:blank x=true):trimL (x::l)=trimL l:=by
 rw[trimL_eq,trimL_eq,List.reverse_cons,List.dropWhile_append]
 split
 ·rename_i h'
  rw[List.isEmpty_iff]at h'
  rw[h']
  simp[List.dropWhile,h]
 ·rw[List.reverse_append]
  simp[List.dropWhile,h]
theorem trimL_snoc(x:UInt8)(l:List UInt8)(h:blank x=true):trimL (l++[x])=trimL l:=by
 rw[trimL_eq,trimL_eq,List.reverse_append]
 simp[List.dropWhile,h]
theorem cutL_cons_not(b x:UInt8)(l:List UInt8)(h:x≠b):cutL b (x::l)=glue [x] (cutL b l):=by rw[cutL,if_neg h]
theorem cutL_snoc_not(b x:UInt8)(h:x≠b)(l:List UInt8):∃A z,cutL b l=A++[z]∧cutL b (l++[x])=A++[z++[x]]:=by
 induction l with
 |nil=>exact⟨[],[],rfl,by simp[cutL,h,glue]⟩
 |cons y l ih=>
  obtain⟨A,z,h1,h2⟩:=ih
  rw[List.cons_append,cutL,cutL,h1,h2]
  split
  ·exact⟨[]::A,z,rfl,rfl⟩
  ·cases A with
   |nil=>exact⟨[],y::z,by simp[glue],by simp[glue]⟩
   |cons a A=>exact⟨(y::a)::A,z,by simp[glue],by simp[glue]⟩
theorem blank_not(x:UInt8)(h:blank x=true):x≠59:=by rintro rfl;exact absurd h (by decide)
theorem cut_left(l:List UInt8):(cutL 59 (l.dropWhile blank)).map trimL=(cutL 59 l).map trimL:=by
 induction l with
 |nil=>rfl
 |cons x l ih=>
  rw[List.dropWhile_cons]
  split
  ·rename_i h
   rw[ih,cutL_cons_not 59 x l (blank_not x h)]
   cases hc:cutL 59 l with
   |nil=>exact absurd hc (cutL_ne _ _)
   |cons a t=>simp[glue,trimL_cons x a h]
  ·rfl
theorem cut_right(l:List UInt8):(cutL 59 (l.dropWhile blank).reverse).map trimL=(cutL 59 l.reverse).map trimL:=by
 induction l with
 |nil=>rfl
 |cons x l ih=>
  rw[List.dropWhile_cons]
  split
  ·rename_i h
   rw[ih,List.reverse_cons]
   obtain⟨A,z,h1,h2⟩:=cutL_snoc_not 59 x (blank_not x h) l.reverse
   rw[h1,h2]
   simp[trimL_snoc x z h]
  ·rfl
theorem cut_trim(l:List UInt8):(cutL 59 (trimL l)).map trimL=(cutL 59 l).map trimL:=by
 rw[trimL_eq,cut_left,cut_right,List.reverse_reverse]
theorem dw_id(m:List UInt8)(h:∀x,m.head?=some x→blank x=false):m.dropWhile blank=m:=by
 cases m with
 |nil=>rfl
 |cons x m=>rw[List.dropWhile_cons,if_neg (by rw[h x rfl];simp)]
theorem dw_head(m:List UInt8):∀x,(m.dropWhile blank).head?=some x→blank x=false:=by
 induction m with
 |nil=>intro x h;simp at h
 |cons y m ih=>
  intro x h
  rw[List.dropWhile_cons]at h
  split at h
  ·exact ih x h
  ·rename_i hb
   simp at h
   subst h
   simpa using hb
theorem dw_last(m:List UInt8):∀x,(m.dropWhile blank).getLast?=some x→m.getLast?=some x:=by
 induction m with
 |nil=>intro x h;simp at h
 |cons y m ih=>
  intro x h
  rw[List.dropWhile_cons]at h
  split at h
  ·have:=ih x h
   rw[List.getLast?_cons,this]
   rfl
  ·exact h
theorem trimL_idem(l:List UInt8):trimL (trimL l)=trimL l:=by
 rw[trimL_eq (trimL l),dw_id (trimL l).reverse,List.reverse_reverse,dw_id]
 ·intro x h
  exact dw_head _ x h
 ·intro x h
  rw[List.head?_reverse]at h
  have h2:=dw_last _ x (by rw[trimL_eq]at h;exact h)
  rw[List.getLast?_reverse]at h2
  exact dw_head _ x h2
/--A line's fields. -/
def fieldsL(l:List UInt8):List (List UInt8):=
 if(cutL 59 (l.takeWhile (·≠35))).map trimL=[[]]then[]else(cutL 59 (l.takeWhile (·≠35))).map trimL
/--The same, by the trimmed text. -/
theorem fieldsL_ref(l:List UInt8):fieldsL l=if trimL (l.takeWhile (·≠35))=[]then[]else(cutL 59 (trimL (l.takeWhile (·≠35)))).map trimL:=by
 unfold fieldsL
 generalize l.takeWhile (·≠35)=h
 by_cases ht:trimL h=[]
 ·rw[if_pos ht,if_pos]
  rw[←cut_trim,ht]
  rfl
 ·rw[if_neg ht,if_neg,cut_trim]
  intro e
  rw[←cut_trim]at e
  apply ht
  cases hc:cutL 59 (trimL h)with
  |nil=>exact absurd hc (cutL_ne _ _)
  |cons x t=>
   rw[hc]at e
   simp at e
   obtain⟨e1,rfl⟩:=e
   rw[cutL_one 59 _ x hc,trimL_idem]at e1
   exact e1
theorem cutL_head(b:UInt8)(l:List UInt8):(cutL b l).headD []=l.takeWhile (·≠b):=by
 induction l with
 |nil=>rfl
 |cons x l ih=>
  rw[cutL,List.takeWhile_cons]
  by_cases h:x=b
  ·rw[if_pos h,if_neg (by simp[h])];rfl
  ·rw[if_neg h,if_pos (by simp[h]),←ih]
   cases hc:cutL b l with
   |nil=>exact absurd hc (cutL_ne _ _)
   |cons a t=>rfl
/--What scan and close tell, as lists. -/
theorem scan_list(s:ByteArray):∀k p st out,p+k=s.size→st≤p→
  (scan s k p st out).1++[trim (s.extract (scan s k p st out).2.1 (scan s k p st out).2.2)]=out++(glue ((s.data.toList.drop st).take (p-st)) (cutL 59 ((s.data.toList.drop p).takeWhile (·≠35)))).map (fun l=>BA (trimL l)):=by
 intro k
 induction k with
 |zero=>
  intro p st out hp hst
  rw[show s.data.toList.drop p=[]from List.drop_eq_nil_of_le (by rw[size_list];omega)]
  show out++[trim (s.extract st s.size)]=out++[BA (trimL ((s.data.toList.drop st).take (p-st)++[]))]
  rw[ext_list,List.append_nil,show p=s.size from by omega]
  rfl
 |succ k ih=>
  intro p st out hp hst
  have hlt:p<s.size:=by omega
  rw[scan,at8_eq s p hlt,drop_cons s p hlt,List.takeWhile_cons]
  by_cases h35:s[p]'hlt=35
  ·rw[if_pos (by rw[h35];rfl),if_neg (by simp[h35])]
   show out++[trim (s.extract st p)]=out++[BA (trimL ((s.data.toList.drop st).take (p-st)++[]))]
   rw[ext_list,List.append_nil]
   rfl
  ·rw[if_neg (fun e=>h35 (UInt8.toNat_inj.1 (by have:(35:UInt8).toNat=35:=rfl;omega))),if_pos (c:=decide (s[p]'hlt≠35)=true) (by simp[h35]),cutL]
   by_cases h59:s[p]'hlt=59
   ·rw[if_pos (c:=((s[p]'hlt).toNat:Int)=59) (by rw[h59];rfl),if_pos h59,ih (p+1) (p+1) _ (by omega) (Nat.le_refl _),ext_list,Nat.sub_self,List.take_zero,glue_nil (cutL_ne _ _)]
    simp[glue,trim_BA]
   ·rw[if_neg (fun e=>h59 (UInt8.toNat_inj.1 (by have:(59:UInt8).toNat=59:=rfl;omega))),if_neg h59,ih (p+1) st out (by omega) (by omega),take_snoc s st p hlt hst,glue_glue]
theorem fieldsV_list(s:ByteArray):fieldsV s=(fieldsL s.data.toList).map BA:=by
 have h:=scan_list s s.size 0 0 [] (by omega) (Nat.le_refl _)
 rw[Nat.sub_self,List.take_zero,List.drop_zero,glue_nil (cutL_ne _ _),List.nil_append]at h
 unfold fieldsV close fieldsL
 generalize scan s s.size 0 0 []=X at*
 have h':X.1++[trim (s.extract X.2.1 X.2.2)]=((cutL 59 (s.data.toList.takeWhile (·≠35))).map trimL).map BA:=by rw[h,List.map_map];rfl
 generalize(cutL 59 (s.data.toList.takeWhile (·≠35))).map trimL=F at*
 generalize trim (s.extract X.2.1 X.2.2)=t at*
 by_cases hF:F=[[]]
 ·rw[if_pos hF]
  rw[hF]at h'
  have h1:X.1.length=0:=by have:=congrArg List.length h';simp at this;simp[this]
  have h2:t=BA []:=by rw[List.length_eq_zero_iff.1 h1]at h';simpa using h'
  rw[if_pos ⟨h1,by rw[h2];rfl⟩]
  rfl
 ·rw[if_neg hF,if_neg,h']
  rintro⟨h1,h2⟩
  apply hF
  rw[List.length_eq_zero_iff.1 h1]at h'
  cases F with
  |nil=>simp at h'
  |cons a F=>
   simp at h'
   obtain⟨rfl,rfl⟩:=h'
   rw[BA_size]at h2
   rw[List.length_eq_zero_iff.1 h2]
end Go.Proofs.YtbbeciofgnkggaaGreatDoor.lin
