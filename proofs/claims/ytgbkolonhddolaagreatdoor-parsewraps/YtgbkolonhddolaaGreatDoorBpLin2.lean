import Derived.Test.YtgbkolonhddolaaGreatDoorBpLin1
import Derived.WalkSmall
import Derived.Deep.LoopGhost
import Derived.Lib.OthersKept
import Derived.Maps.AppendAt
import Derived.Lib.IndexMore
import Derived.OwnWalk
import Derived.Laws.ResultCell
import Derived.Handy
import Derived.Shelf.Abstract
import Derived.Shelf.RegionOpen
import Derived.WalkKit
import Derived.OwnWalkIn
import Derived.TacticsInMore
import Derived.LoopNIn
import Derived.LoopIn
import Derived.Sort.LoopGhostIn
set_option linter.unusedSimpArgs false
set_option linter.unusedVariables false
set_option maxRecDepth 100000
set_option maxHeartbeats 2000000
namespace Go.Proofs.YtgbkolonhddolaaGreatDoor.lin
open Go.RowKit
/--The fields that are over, where the last one begins and ends. -/
def scan(s:ByteArray):Nat→Nat→Nat→List ByteArray→List ByteArray×Nat×Nat
 |0,_,st,out=>(out,st,s.size)
 |k+1,p,st,out=>if at8 s p=35 then(out,st,p)else if at8 s p=59 then scan s k (p+1) (p+1) (out++[trim (s.extract st p)])else scan s k (p+1) st out
/--A line's fields. -/
def close(s:ByteArray)(x:List ByteArray×Nat×Nat):List ByteArray:=if x.1.length=0∧(trim (s.extract x.2.1 x.2.2)).size=0 then[]else x.1++[trim (s.extract x.2.1 x.2.2)]
def bR(s:ByteArray):List ByteArray:=close s (scan s s.size 0 0 [])
theorem FJ(s:ByteArray)(k p st:Nat)(out:List ByteArray)(hk:k≠0)(h:at8 s p=35):scan s k p st out=(out,st,p):=by
 cases k with
 |zero=>omega
 |succ k=>rw[scan,if_pos h]
theorem FE(s:ByteArray)(k p st:Nat)(out:List ByteArray)(hk:k≠0)(h:at8 s p=59):scan s k p st out=scan s (k-1) (p+1) (p+1) (out++[trim (s.extract st p)]):=by
 cases k with
 |zero=>omega
 |succ k=>rw[scan,if_neg (by omega),if_pos h];rfl
theorem vw(s:ByteArray)(k p st:Nat)(out:List ByteArray)(hk:k≠0)(h:at8 s p≠35)(h':at8 s p≠59):scan s k p st out=scan s (k-1) (p+1) st out:=by
 cases k with
 |zero=>omega
 |succ k=>rw[scan,if_neg h,if_neg h'];rfl
theorem FD(s:ByteArray):∀q p st out,(∀j,p≤j→j<p+q→j<s.size→128≤at8 s j)→scan s (s.size-p) p st out=scan s (s.size-(p+q)) (p+q) st out:=by
 intro q
 induction q with
 |zero=>intro p st out _;rfl
 |succ q ih=>
  intro p st out h
  rcases Nat.lt_or_ge p s.size with hp|hp
  ·have h0:=h p (Nat.le_refl _) (by omega) hp
   rw[vw s (s.size-p) p st out (by omega) (by omega) (by omega),show s.size-p-1=s.size-(p+1)from by omega,ih (p+1) st out (fun j a b c=>h j (by omega) (by omega) c)]
   rw[show p+1+q=p+(q+1)from by omega]
  ·rw[show s.size-p=0 from by omega,show s.size-(p+(q+1))=0 from by omega]
   rfl
theorem Ez(s:ByteArray)(j:Nat)(h:j<s.size):((s.get! j).toNat:Int)=at8 s j:=by
 rw[kL s j h]
 have:s.get! j=s[j]'h:=by simp[ByteArray.get!,getElem!_pos,h];rfl
 rw[this]
theorem qB(s:ByteArray)(p j:Nat)(h1:p<j)(h2:j<p+(Utf8.decode s p).2):128≤(s.get! j).toNat:=by
 simp only[Utf8.decode]at h2
 repeat' split at h2
 all_goals simp only[Bool.and_eq_true,decide_eq_true_eq,beq_iff_eq]at*
 all_goals(rcases(show j=p+1∨j=p+2∨j=p+3 from by omega)with rfl|rfl|rfl<;>omega)
theorem mF:(Tryz.prog.info? 9).map (fun i=>(i.zero,i.size,i.bytes))=some (some (.string ByteArray.empty),1,16):=by kernel_rfl
/--The end of fieldsOf, as lemmas over the list: what is answered. -/
theorem own_below{w w':World}{B e size n:Nat}{v:Value}{xs:List Value}(h:w.ownsRow B e size v n xs)(hb:Below w.heap.size w w'):w'.ownsRow B e size v n xs:=by
 refine⟨h.1,?_⟩
 rcases h.2 with hn|⟨g,cap,cur,rfl,hg,hgg,rest⟩
 ·exact .inl hn
 ·exact .inr ⟨g,cap,cur,rfl,hg,by rw[hb.block g (Array.getElem?_eq_some_iff.1 hgg).1];exact hgg,rest⟩
theorem cZ{w:World}{B e size n:Nat}{v:Value}{xs:List Value}(h:w.ownsRow B e size v n xs):∃a c,v=.slice a n c:=by
 rcases h.2 with hn|⟨g,cap,cur,rfl,_⟩
 ·obtain⟨rfl,rfl⟩:=hn;exact⟨_,_,rfl⟩
 ·exact⟨_,_,rfl⟩
theorem iY{t:ByteArray}(h:t.size=0):t.toList.isEmpty=true:=by
 rw[Lib.toList_data]
 have:t.data.toList=[]:=List.eq_nil_of_length_eq_zero (by rw[Array.length_toList];exact h)
 rw[this];rfl
theorem ik{t:ByteArray}(h:¬t.size=0):t.toList.isEmpty=false:=by
 rw[Lib.toList_data]
 cases hl:t.data.toList with
 |nil=>exact absurd (by show t.data.size=0;rw[←Array.length_toList,hl];rfl) h
 |cons x l=>rfl
theorem mJ{s:ByteArray}{out:List ByteArray}{st en:Nat}(h0:out.length=0)(ht:(trim (s.extract st en)).size=0):close s (out,st,en)=[]:=by
 unfold close;rw[if_pos ⟨h0,ht⟩]
theorem kI{s:ByteArray}{out:List ByteArray}{st en:Nat}(h:¬(out.length=0∧(trim (s.extract st en)).size=0)):close s (out,st,en)=out++[trim (s.extract st en)]:=by
 unfold close;rw[if_neg h]
theorem kG(s:ByteArray)(w:World)(hs:s.size≤1099511627776):
  Calls Tryz.prog 141 #[.string s] w fun e w'=>∃v,e=.returned v∧w'.ownsRow (w.heap.size+1) 9 1 v (bR s).length ((bR s).map Value.string)∧Below w.heap.size w w':=by
 obtain⟨i0,hi,hz0,hy1,hz2⟩:=info_parts mF
 go_enter Tryz.func141,Tryz.ntmps141
 go_wp2
 go_step3
 go_wp2
 go_step3
 go_wp2
 go_loopg[3,4,5]s.size(fun k v t e wr=>∃(p st:Nat)(out:List ByteArray),k=s.size-p∧t=.int .i64 st∧e=.int .i64 s.size∧st≤s.size∧st≤p∧out.length≤st∧Hid (wr.heap[w.heap.size]?=some (.stringIter s p))∧wr.ownsRow (w.heap.size+1) 9 1 v out.length (out.map Value.string)∧Hid (scan s (s.size-p) p st out=scan s s.size 0 0 [])∧Below w.heap.size w wr)
 case atStart=>exact⟨0,0,[],by omega,rfl,rfl,Nat.zero_le _,Nat.le_refl _,Nat.le_refl _,World.iter_heap w s 0,World.ownsRow_nil _ _ _ _,rfl,(Below.refl _ _).alloc (Nat.le_refl _) _⟩
 case round=>
  obtain⟨p,st,out,IC,rfl,rfl,hst,hsp,hol,HIT,hown,HSC,hbel⟩:=hrel
  have HGK:Hid (gk=s.size-p):=IC
  clear IC
  obtain⟨sa,sc,rfl⟩:=cZ hown
  by_cases hp:p<s.size
  ·have he:=kL s p hp
   have hit2:=Lib.iterAt_heap wr w.heap.size s p (p+(Utf8.decode s p).2) HIT.out
   have hb2:=Lib.below_iterAt hbel (k:=w.heap.size) (Nat.le_refl _) s (p+(Utf8.decode s p).2)
   have hown2:=ownsRow_iterAt hown (k:=w.heap.size) (by omega) s (p+(Utf8.decode s p).2)
   have hsz2:(wr.iterAt w.heap.size s (p+(Utf8.decode s p).2)).heap.size=wr.heap.size:=Lib.iterAt_size _ _ _ _
   have hnx:=fun ty=>Lib.run_next_any_at (P:=Tryz.prog) wr w.heap.size s p ty HIT.out hp
   by_cases ha:(s[p]'hp).toNat<128
   ·rw[decode_ascii s p hp ha]at hnx hit2 hb2 hown2 hsz2
    by_cases h35:(s[p]'hp).toNat=35
    ·have t1:((((s[p]'hp).toNat:Nat):Int)==35)=true:=by simp;omega
     have HS2:Hid (bR s=close s (out,st,p)):=by
      unfold Hid bR;rw[←HSC.out,FJ s _ p st out (by omega) (by rw[he];omega)]
     have TM:=lq (s.extract st p) (wr.iterAt w.heap.size s (p+1)) (by rw[ByteArray.size_extract];omega)
     have hlt:w.heap.size<(wr.iterAt w.heap.size s (p+1)).heap.size:=(Array.getElem?_eq_some_iff.1 hit2).1
     clear HSC hown hbel he hit2 HIT
     generalize hr:(s[p]'hp).toNat=r at*
     clear hr
     generalize hW:wr.iterAt w.heap.size s (p+1)=W at*
     go_wp2_with fail
     refine TM.mono ?_
     rintro e w2⟨rfl,hb3⟩
     have b3:=hb2.trans (hb3.mono hb2.size)
     have hown3:=own_below hown2 hb3
     have hs3:=b3.size
     have hbs:=hb3.size
     have hit3:w.heap.size+1≤w2.heap.size:=by omega
     have HCN:=@mJ s out st p
     have HCM:=@kI s out st p
     have Mm:Hid (out.length=0→(trim (s.extract st p)).size=0→close s (out,st,p)=[]):=fun a b=>mJ a b
     have uN:Hid (¬(out.length=0∧(trim (s.extract st p)).size=0)→close s (out,st,p)=out++[trim (s.extract st p)]):=fun a=>kI a
     clear TM hb3 hb2 hown2 HCN HCM
     generalize trim (s.extract st p)=t at*
     by_cases hz:out.length=0∧t.size=0
     ·have z1:((out.length:Int)==0)=true:=by rw[hz.1];rfl
      have z2:t.toList.isEmpty=true:=iY hz.2
      have HF:Hid (bR s=[]):=HS2.out.trans (Mm.out hz.1 hz.2)
      clear hz Mm uN hown3
      go_wp2
      try rw[Exit.noGoto_ret]
      go_ret
      exact⟨_,rfl,by rw[HF.out];exact World.ownsRow_nil _ _ _ _,b3⟩
     ·have HF:Hid (bR s=out++[t]):=HS2.out.trans (uN.out hz)
      clear Mm uN
      have HW:Hid (∀k,(Value.slice sa out.length sc).ownBlock=some k→w.heap.size+1≤k):=fun k e=>(hown3.lt _ e).1
      by_cases hz1:out.length=0
      ·have z1:((out.length:Int)==0)=true:=by rw[hz1];rfl
       have z2:t.toList.isEmpty=false:=ik (fun h=>hz ⟨hz1,h⟩)
       clear hz hz1
       go_wp2_with(at_builtin;refine wpList_append_own _ rfl _ _ 62 rfl (w.heap.size+1) 9 i0 (.string ByteArray.empty) 1 16 Tryz.underlying62 hi hz0 hy1 hz2 rfl (by decide) _ _ _ rfl (hown3.alloc _) ⟨w2.heap.size,0,none⟩ 1 1 [.string t] rfl rfl (cell_one_new _ _ _) (by simp[Value.oneCell']) (by unfold maxLen;omega) (by omega) (by simp;omega) ?_)
       intro v' w3 di hgrow _
       have R1:=(b3.alloc hs3 (.cells #[.string t] 9)).grown hgrow (by simp;omega) (fun k e=>by have:=HW.out k e;omega)
       clear hgrow hown3
       go_wp2
       try rw[Exit.noGoto_ret]
       go_ret
       exact⟨_,rfl,by rw[HF.out,List.length_append,List.map_append];exact di,R1⟩
      ·have z1:((out.length:Int)==0)=false:=by rw[beq_eq_false_iff_ne];omega
       clear hz
       go_wp2_with(at_builtin;refine wpList_append_own _ rfl _ _ 62 rfl (w.heap.size+1) 9 i0 (.string ByteArray.empty) 1 16 Tryz.underlying62 hi hz0 hy1 hz2 rfl (by decide) _ _ _ rfl (hown3.alloc _) ⟨w2.heap.size,0,none⟩ 1 1 [.string t] rfl rfl (cell_one_new _ _ _) (by simp[Value.oneCell']) (by unfold maxLen;omega) (by omega) (by simp;omega) ?_)
       intro v' w3 di hgrow _
       have R1:=(b3.alloc hs3 (.cells #[.string t] 9)).grown hgrow (by simp;omega) (fun k e=>by have:=HW.out k e;omega)
       clear hgrow hown3
       go_wp2
       try rw[Exit.noGoto_ret]
       go_ret
       exact⟨_,rfl,by rw[HF.out,List.length_append,List.map_append];exact di,R1⟩
    ·by_cases h59:(s[p]'hp).toNat=59
     ·have t1:((((s[p]'hp).toNat:Nat):Int)==35)=false:=by simp;omega
      have t2:((((s[p]'hp).toNat:Nat):Int)==59)=true:=by simp;omega
      have HS2:Hid (scan s (s.size-(p+1)) (p+1) (p+1) (out++[trim (s.extract st p)])=scan s s.size 0 0 []):=by
       have:=FE s (s.size-p) p st out (by omega) (by rw[he];omega)
       rw[show s.size-p-1=s.size-(p+1)from by omega]at this
       exact this.symm.trans HSC.out
      have HT2:Hid ((wr.iterAt w.heap.size s (p+1)).heap[w.heap.size]?=some (.stringIter s (p+1))):=hit2
      have TM:=lq (s.extract st p) (wr.iterAt w.heap.size s (p+1)) (by rw[ByteArray.size_extract];omega)
      clear hit2 HSC hown hbel he HIT
      generalize hr:(s[p]'hp).toNat=r at*
      clear hr
      generalize hW:wr.iterAt w.heap.size s (p+1)=W at*
      clear hW
      go_wp2_with fail
      refine TM.mono ?_
      rintro e w2⟨rfl,hb3⟩
      have b3:=hb2.trans (hb3.mono hb2.size)
      have hown3:=own_below hown2 hb3
      have hs3:=b3.size
      have hlt:=(Array.getElem?_eq_some_iff.1 HT2.out).1
      have hit3:w.heap.size+1≤w2.heap.size:=by have:=hb3.size;omega
      have HT3:Hid (w2.heap[w.heap.size]?=some (.stringIter s (p+1))):=(hb3.block _ hlt).trans HT2.out
      have HW:Hid (∀k,(Value.slice sa out.length sc).ownBlock=some k→w.heap.size+1≤k):=fun k e=>(hown3.lt _ e).1
      clear TM hb3 hb2 hown2 HT2
      generalize trim (s.extract st p)=t at*
      go_wp2_with(at_builtin;refine wpList_append_own _ rfl _ _ 62 rfl (w.heap.size+1) 9 i0 (.string ByteArray.empty) 1 16 Tryz.underlying62 hi hz0 hy1 hz2 rfl (by decide) _ _ _ rfl (hown3.alloc _) ⟨w2.heap.size,0,none⟩ 1 1 [.string t] rfl rfl (cell_one_new _ _ _) (by simp[Value.oneCell']) (by unfold maxLen;omega) (by omega) (by simp;omega) ?_)
      intro v' w3 di hgrow _
      have R1:=(b3.alloc hs3 (.cells #[.string t] 9)).grown hgrow (by simp;omega) (fun k e=>by have:=HW.out k e;omega)
      have R2:Hid (w3.heap[w.heap.size]?=some (.stringIter s (p+1))):=by
       refine(hgrow.block w.heap.size (by simp;omega) (fun e=>by have:=HW.out _ e.symm;omega)).trans ?_
       rw[Below.heap_alloc _ _ _ (by omega)]
       exact HT3.out
      have R3:w3.ownsRow (w.heap.size+1) 9 1 v' (out++[t]).length ((out++[t]).map Value.string):=by
       rw[List.length_append,List.map_append];exact di
      clear hgrow hown3 di HT3
      go_wp2
      go_roundg(s.size-(p+1))
      case measure=>have:=HGK.out;omega
      case rel=>exact⟨p+1,p+1,out++[t],rfl,by go_num,rfl,by omega,Nat.le_refl _,by simp;omega,R2,R3,HS2,R1⟩
     ·have HS2:Hid (scan s (s.size-(p+1)) (p+1) st out=scan s s.size 0 0 []):=by
       have:=vw s (s.size-p) p st out (by omega) (by rw[he];omega) (by rw[he];omega)
       rw[show s.size-p-1=s.size-(p+1)from by omega]at this
       exact this.symm.trans HSC.out
      have HT2:Hid ((wr.iterAt w.heap.size s (p+1)).heap[w.heap.size]?=some (.stringIter s (p+1))):=hit2
      have t1:((((s[p]'hp).toNat:Nat):Int)==35)=false:=by simp;omega
      have t2:((((s[p]'hp).toNat:Nat):Int)==59)=false:=by simp;omega
      clear hit2 HSC hown hbel he HIT
      generalize hr:(s[p]'hp).toNat=r at*
      clear hr
      generalize hW:wr.iterAt w.heap.size s (p+1)=W at*
      go_wp2
      go_roundg(s.size-(p+1))
      case measure=>have:=HGK.out;omega
      case rel=>exact⟨p+1,st,out,rfl,rfl,rfl,hst,by omega,hol,HT2,hown2,HS2,hb2⟩
   ·have hge:=decode_high s p hp (by omega)
    have HS2:Hid (scan s (s.size-(p+(Utf8.decode s p).2)) (p+(Utf8.decode s p).2) st out=scan s s.size 0 0 []):=by
     refine(FD s (Utf8.decode s p).2 p st out (fun j h1 h2 h3=>?_)).symm.trans HSC.out
     rcases Nat.eq_or_lt_of_le h1 with rfl|h4
     ·rw[he];omega
     ·have:=qB s p j h4 h2
      have e:=Ez s j h3
      omega
    have HT2:Hid ((wr.iterAt w.heap.size s (p+(Utf8.decode s p).2)).heap[w.heap.size]?=some (.stringIter s (p+(Utf8.decode s p).2))):=hit2
    have t1:(((Utf8.decode s p).1:Int)==35)=false:=by simp;omega
    have t2:(((Utf8.decode s p).1:Int)==59)=false:=by simp;omega
    obtain⟨_,hq⟩:=hge
    clear hit2 HSC hown hbel he
    generalize hr:(Utf8.decode s p).1=r at*
    generalize hqq:(Utf8.decode s p).2=q at*
    clear hr hqq
    generalize hW:wr.iterAt w.heap.size s (p+q)=W at*
    go_wp2
    go_roundg(s.size-(p+q))
    case measure=>have:=HGK.out;omega
    case rel=>exact⟨p+q,st,out,rfl,rfl,rfl,hst,by omega,hol,HT2,hown2,HS2,hb2⟩
  ·have hnx:=fun ty=>Lib.run_next_end_at (P:=Tryz.prog) wr w.heap.size s p ty HIT.out hp
   have HS2:Hid (bR s=close s (out,st,s.size)):=by
    unfold Hid bR;rw[←HSC.out,show s.size-p=0 from by omega];rfl
   have TM:=lq (s.extract st s.size) wr (by rw[ByteArray.size_extract];omega)
   have hb2:=hbel
   have hown2:=hown
   have hlt:w.heap.size<wr.heap.size:=(Array.getElem?_eq_some_iff.1 HIT.out).1
   clear HSC HIT hbel hown
   go_wp2_with fail
   refine TM.mono ?_
   rintro e w2⟨rfl,hb3⟩
   have b3:=hb2.trans (hb3.mono hb2.size)
   have hown3:=own_below hown2 hb3
   have hs3:=b3.size
   have hbs:=hb3.size
   have hit3:w.heap.size+1≤w2.heap.size:=by omega
   have HCN:=@mJ s out st s.size
   have HCM:=@kI s out st s.size
   have Mm:Hid (out.length=0→(trim (s.extract st s.size)).size=0→close s (out,st,s.size)=[]):=fun a b=>mJ a b
   have uN:Hid (¬(out.length=0∧(trim (s.extract st s.size)).size=0)→close s (out,st,s.size)=out++[trim (s.extract st s.size)]):=fun a=>kI a
   clear TM hb3 hb2 hown2 HCN HCM
   generalize trim (s.extract st s.size)=t at*
   by_cases hz:out.length=0∧t.size=0
   ·have z1:((out.length:Int)==0)=true:=by rw[hz.1];rfl
    have z2:t.toList.isEmpty=true:=iY hz.2
    have HF:Hid (bR s=[]):=HS2.out.trans (Mm.out hz.1 hz.2)
    clear hz Mm uN hown3
    go_wp2
    try rw[Exit.noGoto_ret]
    go_ret
    exact⟨_,rfl,by rw[HF.out];exact World.ownsRow_nil _ _ _ _,b3⟩
   ·have HF:Hid (bR s=out++[t]):=HS2.out.trans (uN.out hz)
    clear Mm uN
    have HW:Hid (∀k,(Value.slice sa out.length sc).ownBlock=some k→w.heap.size+1≤k):=fun k e=>(hown3.lt _ e).1
    by_cases hz1:out.length=0
    ·have z1:((out.length:Int)==0)=true:=by rw[hz1];rfl
     have z2:t.toList.isEmpty=false:=ik (fun h=>hz ⟨hz1,h⟩)
     clear hz hz1
     go_wp2_with(at_builtin;refine wpList_append_own _ rfl _ _ 62 rfl (w.heap.size+1) 9 i0 (.string ByteArray.empty) 1 16 Tryz.underlying62 hi hz0 hy1 hz2 rfl (by decide) _ _ _ rfl (hown3.alloc _) ⟨w2.heap.size,0,none⟩ 1 1 [.string t] rfl rfl (cell_one_new _ _ _) (by simp[Value.oneCell']) (by unfold maxLen;omega) (by omega) (by simp;omega) ?_)
     intro v' w3 di hgrow _
     have R1:=(b3.alloc hs3 (.cells #[.string t] 9)).grown hgrow (by simp;omega) (fun k e=>by have:=HW.out k e;omega)
     clear hgrow hown3
     go_wp2
     try rw[Exit.noGoto_ret]
     go_ret
     exact⟨_,rfl,by rw[HF.out,List.length_append,List.map_append];exact di,R1⟩
    ·have z1:((out.length:Int)==0)=false:=by rw[beq_eq_false_iff_ne];omega
     clear hz
     go_wp2_with(at_builtin;refine wpList_append_own _ rfl _ _ 62 rfl (w.heap.size+1) 9 i0 (.string ByteArray.empty) 1 16 Tryz.underlying62 hi hz0 hy1 hz2 rfl (by decide) _ _ _ rfl (hown3.alloc _) ⟨w2.heap.size,0,none⟩ 1 1 [.string t] rfl rfl (cell_one_new _ _ _) (by simp[Value.oneCell']) (by unfold maxLen;omega) (by omega) (by simp;omega) ?_)
     intro v' w3 di hgrow _
     have R1:=(b3.alloc hs3 (.cells #[.string t] 9)).grown hgrow (by simp;omega) (fun k e=>by have:=HW.out k e;omega)
     clear hgrow hown3
     go_wp2
     try rw[Exit.noGoto_ret]
     go_ret
     exact⟨_,rfl,by rw[HF.out,List.length_append,List.map_append];exact di,R1⟩
end Go.Proofs.YtgbkolonhddolaaGreatDoor.lin
namespace Go.Proofs.YtgbkolonhddolaaGreatDoor.lin
open Go.RowKit
end Go.Proofs.YtgbkolonhddolaaGreatDoor.lin
namespace Go.Proofs.YtgbkolonhddolaaGreatDoor.lin
open Go.RowKit
/--What stands ahead of, and behind, the first two dots; the field itself twice, if it has none. -/
def xC(s:ByteArray):ByteArray:=⟨(Lib.cut s.data.toList [46,46]).1.toArray⟩
def wP(s:ByteArray):ByteArray:=if(Lib.cut s.data.toList [46,46]).2.2 then⟨(Lib.cut s.data.toList [46,46]).2.1.toArray⟩else xC s
def xN(s:ByteArray):Bool:=hexB (xC s)&&hexB (wP s)&&decide (hexN (xC s)≤hexN (wP s))
def Ar(s:ByteArray):Int:=if xN s then hexN (xC s)else 0
def Au(s:ByteArray):Int:=if xN s then hexN (wP s)else 0
theorem below_drewN{w:World}(n:Nat):Below w.heap.size w (w.drewN n):=by
 induction n generalizing w with
 |zero=>exact Below.refl _ _
 |succ n ih=>exact ih.drew
end Go.Proofs.YtgbkolonhddolaaGreatDoor.lin
namespace Go.Proofs.YtgbkolonhddolaaGreatDoor.lin
open Go.RowKit
/--Whether fields say a record; its value, where they lie in block g. -/
def recB(fs:List ByteArray):Bool:=decide (2≤fs.length)&&xN (fs.headD ByteArray.empty)
def recAgg(fs:List ByteArray)(g cap:Nat):Value:=
 if recB fs then .agg #[.int .i64 (Ar (fs.headD ByteArray.empty)),.int .i64 (Au (fs.headD ByteArray.empty)),.slice (some ⟨g,1,none⟩) (fs.length-1) (cap-1)]else .agg #[.int .i64 0,.int .i64 0,.slice none 0 0]
end Go.Proofs.YtgbkolonhddolaaGreatDoor.lin
namespace Go.Proofs.YtgbkolonhddolaaGreatDoor.lin
open Go.RowKit
/--Strings fs lie in one block of strings from base on, and v is the slice of them. -/
def DL(w:World)(base:Nat)(v:Value)(fs:List ByteArray):Prop:=
 ∃g off cap cur,v=.slice (some ⟨g,off,none⟩) fs.length cap∧base≤g∧w.heap[g]?=some (.cells cur 9 (0,0))∧∀j,j<fs.length→cur[off+j]?=some (.string (fs.getD j ByteArray.empty))
theorem DL.lower{w:World}{base Aw:Nat}{v:Value}{fs:List ByteArray}(h:DL w Aw v fs)(hb:base≤Aw):DL w base v fs:=by
 obtain⟨g,off,cap,cur,rfl,hg,rest⟩:=h
 exact⟨g,off,cap,cur,rfl,by omega,rest⟩
theorem DL.kept{A B:World}{base:Nat}{v:Value}{fs:List ByteArray}(h:DL A base v fs)(hb:Below A.heap.size A B):DL B base v fs:=by
 obtain⟨g,off,cap,cur,rfl,hg,hgg,hc⟩:=h
 exact⟨g,off,cap,cur,rfl,hg,(hb.block g (Array.getElem?_eq_some_iff.1 hgg).1).trans hgg,hc⟩
theorem Gf{w:World}{base e size n:Nat}{v:Value}{xs:List Value}(ho:w.ownsRow base e size v n xs):∀k,v.ownBlock=some k→∃cur,w.heap[k]?=some (.cells cur e (0,0)):=by
 intro k e
 rcases ho.2 with hn|⟨g',cap',cur',hv',h1,h2,_⟩
 ·rw[hn.1]at e;cases e
 ·rw[hv']at e;cases e;exact⟨_,h2⟩
/--A record: its bounds, its fields' value, its fields. -/
structure RR where
 lo:Int
 hi:Int
 fv:Value
 fs:List ByteArray
abbrev L8:=Int×Int×List ByteArray
def RR.plain(q:RR):L8:=(q.lo,q.hi,q.fs)
def flatR(L:List RR):List Value:=L.flatMap fun q=>[.int .i64 q.lo,.int .i64 q.hi,q.fv]
/--A line says nothing, or a record. -/
def Kl(x:ByteArray):Bool:=(bR x).length==0||recB (bR x)
def recV(fs:List ByteArray):L8:=(Ar (fs.headD ByteArray.empty),Au (fs.headD ByteArray.empty),fs.tail)
def Kk(x:ByteArray):List L8:=if(bR x).length=0 then[]else[recV (bR x)]
def recsOf(ls:List ByteArray):List L8:=ls.flatMap Kk
/--What a file says: its records, or the number of the first line that can't be, and the error. -/
def parseV(s:ByteArray):List L8×Nat×Int:=
 if(cutV s 10).all Kl then(recsOf (cutV s 10),0,0)else([],(cutV s 10).findIdx (fun x=>!Kl x)+1,20)
theorem Lh(s:ByteArray)(b:Int):∀k p a,(cuts s b k p a).length≤k+1:=by
 intro k
 induction k with
 |zero=>intro p a;simp[cuts]
 |succ k ih=>
  intro p a
  rw[cuts]
  split
  ·have:=ih (p+1) (p+1);simp;omega
  ·have:=ih (p+1) a;omega
theorem Hz(s:ByteArray)(b:Int):∀k p a,∀x∈cuts s b k p a,x.size≤s.size:=by
 intro k
 induction k with
 |zero=>intro p a x hx;simp[cuts]at hx;subst hx;rw[ByteArray.size_extract];omega
 |succ k ih=>
  intro p a x hx
  rw[cuts]at hx
  split at hx
  ·rcases List.mem_cons.1 hx with rfl|hx
   ·rw[ByteArray.size_extract];omega
   ·exact ih _ _ x hx
  ·exact ih _ _ x hx
end Go.Proofs.YtgbkolonhddolaaGreatDoor.lin
namespace Go.Proofs.YtgbkolonhddolaaGreatDoor.lin
open Go.RowKit
def BA(l:List UInt8):ByteArray:=⟨l.toArray⟩
theorem BA_list(s:ByteArray):BA s.data.toList=s:=rfl
theorem gZ(l:List UInt8):(BA l).data.toList=l:=rfl
theorem cB(l:List UInt8):(BA l).size=l.length:=rfl
theorem gI(s:ByteArray):s.data.toList.length=s.size:=Array.length_toList
/--A list ahead of the first of lists. -/
def glue(x:List UInt8):List (List UInt8)→List (List UInt8)
 |[]=>[x]
 |h::t=>(x++h)::t
/--The parts of a list between a byte. -/
def cutL(b:UInt8):List UInt8→List (List UInt8)
 |[]=>[[]]
 |x::l=>if x=b then[]::cutL b l else glue [x] (cutL b l)
theorem vP(x y:List UInt8)(L:List (List UInt8)):glue x (glue y L)=glue (x++y) L:=by
 cases L<;>simp[glue]
theorem qX(b:UInt8)(l:List UInt8):cutL b l≠[]:=by
 cases l with
 |nil=>simp[cutL]
 |cons x l=>
  rw[cutL];split
  ·simp
  ·cases cutL b l<;>simp[glue]
theorem oD{L:List (List UInt8)}(h:L≠[]):glue [] L=L:=by
 cases L with
 |nil=>exact absurd rfl h
 |cons h t=>rfl
theorem drop_cons(s:ByteArray)(p:Nat)(h:p<s.size):s.data.toList.drop p=s[p]'h::s.data.toList.drop (p+1):=by
 rw[List.drop_eq_getElem_cons (by rw[gI];exact h)]
 rfl
theorem ext_list(s:ByteArray)(a p:Nat):s.extract a p=BA ((s.data.toList.drop a).take (p-a)):=by
 apply ByteArray.ext
 show(s.extract a p).data=((s.data.toList.drop a).take (p-a)).toArray
 rw[ByteArray.data_extract]
 apply Array.ext'
 rw[Array.toList_extract]
theorem uY(s:ByteArray)(a p:Nat)(h:p<s.size)(ha:a≤p):(s.data.toList.drop a).take (p+1-a)=(s.data.toList.drop a).take (p-a)++[s[p]'h]:=by
 rw[show p+1-a=p-a+1 from by omega,List.take_add_one]
 congr 1
 rw[List.getElem?_drop,show a+(p-a)=p from by omega,List.getElem?_eq_getElem (by rw[gI];exact h)]
 rfl
theorem H5(s:ByteArray)(b:UInt8):∀k p a,p+k=s.size→a≤p→cuts s (b.toNat:Int) k p a=(glue ((s.data.toList.drop a).take (p-a)) (cutL b (s.data.toList.drop p))).map BA:=by
 intro k
 induction k with
 |zero=>
  intro p a hp ha
  rw[show s.data.toList.drop p=[]from List.drop_eq_nil_of_le (by rw[gI];omega)]
  show[s.extract a s.size]=[BA ((s.data.toList.drop a).take (p-a)++[])]
  rw[ext_list,List.append_nil,show p=s.size from by omega]
 |succ k ih=>
  intro p a hp ha
  have hlt:p<s.size:=by omega
  rw[cuts,kL s p hlt,drop_cons s p hlt,cutL]
  by_cases hb:s[p]'hlt=b
  ·rw[if_pos (by rw[hb]),if_pos hb,ih (p+1) (p+1) (by omega) (Nat.le_refl _),ext_list,Nat.sub_self,List.take_zero,oD (qX _ _)]
   simp[glue]
  ·rw[if_neg (fun e=>hb (UInt8.toNat_inj.1 (by omega))),if_neg hb,ih (p+1) a (by omega) (by omega),uY s a p hlt ha,vP]
theorem H6(s:ByteArray)(b:UInt8):cutV s (b.toNat:Int)=(cutL b s.data.toList).map BA:=by
 unfold cutV
 rw[H5 s b s.size 0 0 (by omega) (Nat.le_refl _),Nat.sub_self,List.take_zero,List.drop_zero,oD (qX _ _)]
def blank(b:UInt8):Bool:=[32,9].contains b
def qo(l:List UInt8):List UInt8:=Lib.trimS l [32,9]
theorem trim_BA(l:List UInt8):trim (BA l)=BA (qo l):=rfl
/--A line's fields. -/
def oF(l:List UInt8):List (List UInt8):=
 if(cutL 59 (l.takeWhile (·≠35))).map qo=[[]]then[]else(cutL 59 (l.takeWhile (·≠35))).map qo
/--What scan and close tell, as lists. -/
theorem FH(s:ByteArray):∀k p st out,p+k=s.size→st≤p→
  (scan s k p st out).1++[trim (s.extract (scan s k p st out).2.1 (scan s k p st out).2.2)]=out++(glue ((s.data.toList.drop st).take (p-st)) (cutL 59 ((s.data.toList.drop p).takeWhile (·≠35)))).map (fun l=>BA (qo l)):=by
 intro k
 induction k with
 |zero=>
  intro p st out hp hst
  rw[show s.data.toList.drop p=[]from List.drop_eq_nil_of_le (by rw[gI];omega)]
  show out++[trim (s.extract st s.size)]=out++[BA (qo ((s.data.toList.drop st).take (p-st)++[]))]
  rw[ext_list,List.append_nil,show p=s.size from by omega]
  rfl
 |succ k ih=>
  intro p st out hp hst
  have hlt:p<s.size:=by omega
  rw[scan,kL s p hlt,drop_cons s p hlt,List.takeWhile_cons]
  by_cases h35:s[p]'hlt=35
  ·rw[if_pos (by rw[h35];rfl),if_neg (by simp[h35])]
   show out++[trim (s.extract st p)]=out++[BA (qo ((s.data.toList.drop st).take (p-st)++[]))]
   rw[ext_list,List.append_nil]
   rfl
  ·rw[if_neg (fun e=>h35 (UInt8.toNat_inj.1 (by have:(35:UInt8).toNat=35:=rfl;omega))),if_pos (c:=decide (s[p]'hlt≠35)=true) (by simp[h35]),cutL]
   by_cases h59:s[p]'hlt=59
   ·rw[if_pos (c:=((s[p]'hlt).toNat:Int)=59) (by rw[h59];rfl),if_pos h59,ih (p+1) (p+1) _ (by omega) (Nat.le_refl _),ext_list,Nat.sub_self,List.take_zero,oD (qX _ _)]
    simp[glue,trim_BA]
   ·rw[if_neg (fun e=>h59 (UInt8.toNat_inj.1 (by have:(59:UInt8).toNat=59:=rfl;omega))),if_neg h59,ih (p+1) st out (by omega) (by omega),uY s st p hlt hst,vP]
theorem xD(s:ByteArray):bR s=(oF s.data.toList).map BA:=by
 have h:=FH s s.size 0 0 [] (by omega) (Nat.le_refl _)
 rw[Nat.sub_self,List.take_zero,List.drop_zero,oD (qX _ _),List.nil_append]at h
 unfold bR close oF
 generalize scan s s.size 0 0 []=X at*
 have h':X.1++[trim (s.extract X.2.1 X.2.2)]=((cutL 59 (s.data.toList.takeWhile (·≠35))).map qo).map BA:=by rw[h,List.map_map];rfl
 generalize(cutL 59 (s.data.toList.takeWhile (·≠35))).map qo=F at*
 generalize trim (s.extract X.2.1 X.2.2)=t at*
 by_cases hF:F=[[]]
 ·rw[if_pos hF]
  rw[hF]at h'
  have h1:X.1.length=0:=by have:=congrArg List.length h';simp at this;simp[this]
  have h2:t=BA []:=by rw[List.length_eq_zero_iff.1 h1]at h';simpa using h'
  rw[if_pos ⟨h1,by rw[h2];rfl⟩]
  rfl
 ·rw[if_neg hF,if_neg,h']
  rintro⟨h1,h2⟩
  apply hF
  rw[List.length_eq_zero_iff.1 h1]at h'
  cases F with
  |nil=>simp at h'
  |cons a F=>
   simp at h'
   obtain⟨rfl,rfl⟩:=h'
   rw[cB]at h2
   rw[List.length_eq_zero_iff.1 h2]
end Go.Proofs.YtgbkolonhddolaaGreatDoor.lin
namespace Go.Proofs.YtgbkolonhddolaaGreatDoor.lin
open Go.RowKit
end Go.Proofs.YtgbkolonhddolaaGreatDoor.lin
namespace Go.Proofs.YtgbkolonhddolaaGreatDoor.lin
open Go.RowKit
end Go.Proofs.YtgbkolonhddolaaGreatDoor.lin
namespace Go.Proofs.YtgbkolonhddolaaGreatDoor.lin
open Go.RowKit
/--A row of strings: the slice, and each string where it lies. -/
theorem strRow{w:World}{base:Nat}{v:Value}{xs:List ByteArray}(h:w.ownsRow base 9 1 v xs.length (xs.map Value.string)):
  ∃a c,v=.slice a xs.length c∧(0<xs.length→∃g,a=some ⟨g,0,none⟩∧base≤g∧g<w.heap.size∧xs.length≤c∧c≤maxLen∧(∃cur:Array Value,w.heap[g]?=some (.cells cur 9 (0,0))∧∀(i:Nat)(x:ByteArray),xs[i]?=some x→cur[i]?=some (Value.string x))∧∀(i:Nat)(x:ByteArray),xs[i]?=some x→w.cell? ⟨g,i,none⟩=some (.string x)):=by
 rcases h.2 with hn|⟨g,cap,cur,rfl,hg,hgg,h3,h4,h5,h6⟩
 ·obtain⟨rfl,h0⟩:=hn
  rw[h0]
  exact⟨_,_,rfl,fun h=>by omega⟩
 ·have hc:∀(i:Nat)(x:ByteArray),xs[i]?=some x→cur[i]?=some (Value.string x):=by
   intro i x hx
   have hi:i<xs.length*1:=by have:=(List.getElem?_eq_some_iff.1 hx).1;omega
   rw[←Array.getElem?_toList,←List.getElem?_take_of_lt hi,h6,List.getElem?_map,hx]
   rfl
  exact⟨_,_,rfl,fun _=>⟨g,rfl,hg,(Array.getElem?_eq_some_iff.1 hgg).1,h3,h4,⟨cur,hgg,hc⟩,fun i x hx=>by rw[cell_of_row w g i cur _ _ hgg];exact hc i x hx⟩⟩
theorem jP{w:World}{B B2 e size n:Nat}{v:Value}{xs:List Value}(h:w.ownsRow B2 e size v n xs)(hb:B≤B2):w.ownsRow B e size v n xs:=by
 refine⟨h.1,?_⟩
 rcases h.2 with hn|⟨g,cap,cur,rfl,hg,rest⟩
 ·exact .inl hn
 ·exact .inr ⟨g,cap,cur,rfl,by omega,rest⟩
end Go.Proofs.YtgbkolonhddolaaGreatDoor.lin
namespace Go.Proofs.YtgbkolonhddolaaGreatDoor.lin
open Go.RowKit Go.Shelf
attribute [local go_sem] Oper.semAt_some
theorem iP(n:Nat):Fence.wide.depth.isSome=true→1≤n:=fun h=>by simp[Fence.wide]at h
/--The three captured variables of the closure: the text left, the separator, what is kept of it. -/
structure IA(W:World)(c:Nat)(s:ByteArray):Prop where
 text:Boxed W c 9 (.string s)
 sep:Boxed W (c+1) 9 (.string ⟨#[10]⟩)
 save:Boxed W (c+2) 3 (.int .i64 0)
theorem IA.keep{W W':World}{c hi:Nat}{s:ByteArray}(h:IA W c s)(hh:c+3≤hi)(k:uJ c hi W W'):IA W' c s:=
 ⟨(k c (by omega) (by omega)).trans h.text,(k (c+1) (by omega) (by omega)).trans h.sep,(k (c+2) (by omega) (by omega)).trans h.save⟩
theorem xU(s:ByteArray)(w:World):
  Calls Tryz.prog 140 #[.string s,.string ⟨#[10]⟩] w fun e w'=>e=.returned (.func (.func 175) #[] #[.pointer (some ⟨w.heap.size+1,0,none⟩),.pointer (some ⟨w.heap.size,0,none⟩),.pointer (some ⟨w.heap.size+2,0,none⟩)])∧
   w'=((w.alloc (.cells #[.string s] 9)).alloc (.cells #[.string ⟨#[10]⟩] 9)).alloc (.cells #[.int .i64 0] 3):=by
 have SP:Calls Tryz.prog 161 #[.string s,.string ⟨#[10]⟩,.int .i64 0] w fun e w'=>e=.returned (.func (.func 175) #[] #[.pointer (some ⟨w.heap.size+1,0,none⟩),.pointer (some ⟨w.heap.size,0,none⟩),.pointer (some ⟨w.heap.size+2,0,none⟩)])∧
   w'=((w.alloc (.cells #[.string s] 9)).alloc (.cells #[.string ⟨#[10]⟩] 9)).alloc (.cells #[.int .i64 0] 3):=by
  go_enter Tryz.func161,Tryz.ntmps161
  go_wp2
  go_ret
  exact⟨rfl,rfl⟩
 go_enter Tryz.func140,Tryz.ntmps140
 go_wp2_with(go_at_call 161;refine SP.mono ?_;rintro e w'⟨rfl,rfl⟩)
 go_ret
 exact⟨rfl,rfl⟩
theorem yQ(n c:Nat)(s:ByteArray)(w:World)(hs:s.size≤1099511627776)(hcap:IA w c s):
  Gives n Tryz.prog 175 #[.pointer (some ⟨c+1,0,none⟩),.pointer (some ⟨c,0,none⟩),.pointer (some ⟨c+2,0,none⟩)] (fun x=>#[.string x]) (cutV s 10) c c w.heap.size w:=by
 intro l J Jx W hW hJ hY h0
 have hlt:=hcap.save.lt
 have hcW:IA W c s:=⟨(hW.block c (by omega)).trans hcap.text,(hW.block (c+1) (by omega)).trans hcap.sep,(hW.block (c+2) hlt).trans hcap.save⟩
 refine callsIn_of_wp Tryz.func175 rfl trivial ?_ rfl
 simp only[Tryz.ntmps175,List.size_toArray,List.length_cons,List.length_nil,Nat.reduceAdd,Nat.reduceSub,Array.replicate_succ,Array.replicate_zero,List.push_toArray,List.append_toArray,List.nil_append,List.cons_append]
 have c1:=hcW.sep.cell
 gi_wp2
 clear c1
 gi_loopg[7]s.size(fun k v wr=>∃(a:Nat)(pre:List ByteArray),k=s.size-a∧a≤s.size∧Hid (pre++cuts s 10 (s.size-a) a a=cutV s 10)∧IA wr c (s.extract a s.size)∧J pre wr)
 case atStart=>exact⟨0,[],by omega,Nat.zero_le _,rfl,by rw[show s.extract 0 s.size=s from by simp];exact hcW,h0⟩
 case round=>
  obtain⟨a,pre,IC,ha,HX,hcr,hj⟩:=hrel
  have c0:=hcr.text.cell
  have c1:=hcr.sep.cell
  have c2:=hcr.save.cell
  have IX:=Tryz.strings_Index_one (s.extract a s.size) 10 wr
  rcases(show Lib.indexByte (s.extract a s.size).data.toList 10=-1∨∃o:Nat,Lib.indexByte (s.extract a s.size).data.toList 10=o from by
   have:=Lib.indexByte_ge (s.extract a s.size).data.toList 10
   rcases(show Lib.indexByte (s.extract a s.size).data.toList 10=-1∨0≤Lib.indexByte (s.extract a s.size).data.toList 10 from by omega)with h|h
   ·exact .inl h
   ·exact .inr ⟨_,(Int.toNat_of_nonneg h).symm⟩)with hi|⟨o,hi⟩
  ·have hr:=FT s a ha hi
   rw[hi]at IX
   have EJ:cutV s 10=pre++[s.extract a s.size]:=by rw[←HX.out,hr]
   obtain⟨fn,tmps,assign,body,hy,hR⟩:=hY pre (s.extract a s.size) [] wr EJ hj
   clear HX hr hi
   have HX3:Hid (cutV s 10=pre++[s.extract a s.size]):=EJ
   clear EJ
   generalize s.extract a s.size=R at*
   gi_wp2
   refine⟨trivial,iP _,(callsIn_wide.2 IX).mono ?_⟩
   rintro e w'⟨rfl,rfl⟩
   gi_wp2
   refine⟨iP _,hR.mono ?_⟩
   rintro e W3(⟨rfl,hJ3,hk3⟩|⟨rfl,hJx3⟩)
   ·gi_wp2
    go_end0
    exact⟨⟨_,rfl⟩,.inl (by rw[HX3.out];exact hJ3)⟩
   ·gi_wp2
    go_end0
    exact⟨⟨_,rfl⟩,.inr ⟨_,hJx3⟩⟩
  ·obtain⟨hao,hr⟩:=FR s a o ha hi
   rw[hi]at IX
   have EJ:cutV s 10=pre++s.extract a (a+o)::cuts s 10 (s.size-(a+o+1)) (a+o+1) (a+o+1):=by rw[←HX.out,hr]
   obtain⟨fn,tmps,assign,body,hy,hR⟩:=hY pre (s.extract a (a+o)) _ wr EJ hj
   clear HX hr hi
   have HX3:Hid (cutV s 10=pre++s.extract a (a+o)::cuts s 10 (s.size-(a+o+1)) (a+o+1) (a+o+1)):=EJ
   clear EJ
   have e1:=Hd s a o (by omega)
   have e2:=KZ s a (o+1) ha
   have hz:(s.extract a s.size).size=s.size-a:=by rw[ByteArray.size_extract];omega
   generalize s.extract a s.size=R at*
   generalize s.extract a (a+o)=X at*
   gi_wp2
   refine⟨trivial,iP _,(callsIn_wide.2 IX).mono ?_⟩
   rintro e w'⟨rfl,rfl⟩
   gi_wp2
   refine⟨iP _,hR.mono ?_⟩
   rintro e W3(⟨rfl,hJ3,hk3⟩|⟨rfl,hJx3⟩)
   ·have hc3:=hcr.keep hlt hk3
    have d0:=hc3.text.cell
    have d1:=hc3.sep.cell
    have d2:=hc3.save.cell
    have f0:=hc3.text.frozen
    gi_wp2
    gi_roundg(s.size-(a+(o+1)))
    case measure=>omega
    case rel=>exact⟨a+(o+1),pre++[X],rfl,by omega,by rw[HX3.out];simp[Hid,Nat.add_assoc],⟨by rw[←e2,hz];exact hc3.text.set _,hc3.sep.other (by omega) _,hc3.save.other (by omega) _⟩,hJ _ _ _ hJ3 (grownBy_setCell' _ _ _)⟩
   ·gi_wp2
    refine bodyPost_ret (results_none rfl _ _ _) rfl ?_
    exact⟨⟨_,rfl⟩,.inr ⟨_,hJx3⟩⟩
end Go.Proofs.YtgbkolonhddolaaGreatDoor.lin
