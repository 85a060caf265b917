import Derived.Test.YtgbkolonhddolaaGreatDoorBpNam2
import Derived.Lib.AsciiSet
import Derived.Lib.Builder
import Derived.Test.YtgbkolonhddolaaGreatDoorBpLin1
set_option linter.unusedSimpArgs false
set_option linter.unusedVariables false
set_option maxRecDepth 1000000
set_option maxHeartbeats 8000000
namespace Go.Proofs.YtgbkolonhddolaaGreatDoor.nam
open Go.RowKit lin
/--Whether one of both stands at a place; the first such place. -/
def mk(s:ByteArray)(j:Nat):Prop:=at8 s j=61∨at8 s j=58
def iW(s:ByteArray):Int:=Lib.indexAny s.data.toList [61,58]
theorem Cj(s:ByteArray)(j:Nat)(h:j<s.size):mk s j↔([61,58]:List UInt8).contains (s[j]'h)=true:=by
 unfold mk
 rw[kL s j h]
 have e:∀n:Nat,n<256→(((s[j]'h).toNat:Int)=n↔s[j]'h=UInt8.ofNat n):=fun n hn=>by rw[DW _ n hn];omega
 rw[show(61:Int)=((61:Nat):Int)from rfl,show(58:Int)=((58:Nat):Int)from rfl,e 61 (by decide),e 58 (by decide)]
 simp
theorem zy(s:ByteArray)(p:Nat)(h:∀j,j<p→j<s.size→¬mk s j):Lib.NoAny s.data.toList [61,58] p:=fun j b hj hb=>by
 have hl:j<s.data.toList.length:=(List.getElem?_eq_some_iff.1 hb).1
 have hl':j<s.size:=by simpa using hl
 have hb2:s[j]'hl'=b:=(List.getElem?_eq_some_iff.1 hb).2
 cases hc:([61,58]:List UInt8).contains b with
 |false=>rfl
 |true=>exact absurd ((Cj s j hl').2 (by rw[hb2];exact hc)) (h j hj hl')
theorem sD(s:ByteArray)(p:Nat)(hp:p<s.size)(h:∀j,j<p→j<s.size→¬mk s j)(hm:mk s p):iW s=p:=
 Lib.indexAny_hit (zy s p h) (List.getElem?_eq_getElem (by simpa using hp)) ((Cj s p hp).1 hm)
theorem pM(s:ByteArray)(h:∀j,j<s.size→¬mk s j):iW s=-1:=
 Lib.indexAny_none (by rw[show s.data.toList.length=s.size from by simp];exact zy s s.size (fun j hj _=>h j hj))
/--It is the first one, or there is none. -/
theorem Co(s:ByteArray):(iW s=-1∧∀j,j<s.size→¬mk s j)∨∃p:Nat,iW s=p∧p<s.size∧mk s p∧∀j,j<p→j<s.size→¬mk s j:=by
 have step:∀k,k≤s.size→(∀j,j<k→j<s.size→¬mk s j)∨∃p:Nat,p<s.size∧mk s p∧∀j,j<p→j<s.size→¬mk s j:=by
  intro k
  induction k with
  |zero=>intro _;exact .inl (fun j h=>absurd h (Nat.not_lt_zero _))
  |succ k ih=>
   intro hk
   rcases ih (by omega)with h|h
   ·by_cases hm:mk s k
    ·exact .inr ⟨k,by omega,hm,h⟩
    ·refine .inl (fun j hj hs=>?_)
     rcases Nat.lt_or_ge j k with h'|h'
     ·exact h j h' hs
     ·obtain rfl:j=k:=by omega
      exact hm
   ·exact .inr h
 rcases step s.size (Nat.le_refl _)with h|⟨p,h1,h2,h3⟩
 ·exact .inl ⟨pM s (fun j hj=>h j hj hj),fun j hj=>h j hj hj⟩
 ·exact .inr ⟨p,sD s p h1 h3 h2,h1,h2,h3⟩
theorem ve:ByteArray.size ⟨#[61,58]⟩=2:=rfl
theorem Jn(p:Nat)(hp:p<ByteArray.size ⟨#[61,58]⟩):((⟨#[61,58]⟩:ByteArray)[p]'hp).toNat<128:=by
 have h:∀p:Fin 2,((⟨#[61,58]⟩:ByteArray)[p.val]'(by rw[ve];exact p.isLt)).toNat<128:=by decide+kernel
 exact h ⟨p,by rw[ve]at hp;exact hp⟩
theorem Ju(w:World):
  Calls Tryz.prog 124 #[.string ⟨#[61,58]⟩,.int .i32 65533] w fun e w'=>e=.returned (.int .i64 (-1))∧Below w.heap.size w w':=by
 go_enter Tryz.func124,Tryz.ntmps124
 go_wp2
 go_loopg[]2(fun k wr=>∃p:Nat,k=2-p∧Hid (wr.heap[w.heap.size]?=some (.stringIter ⟨#[61,58]⟩ p))∧Below w.heap.size w wr)
 case atStart=>exact⟨0,rfl,World.iter_heap w _ 0,(Below.refl _ _).alloc (Nat.le_refl _) _⟩
 case round=>
  obtain⟨p,IC,HIT,hbel⟩:=hrel
  have HGK:Hid (gk=2-p):=IC
  clear IC
  by_cases hp:p<ByteArray.size ⟨#[61,58]⟩
  ·have hlow:=Jn p hp
   have hp3:p<2:=hp
   have hit2:=Lib.iterAt_heap wr w.heap.size ⟨#[61,58]⟩ p (p+1) HIT.out
   have hb2:=Lib.below_iterAt hbel (k:=w.heap.size) (Nat.le_refl _) ⟨#[61,58]⟩ (p+1)
   have hnx:=fun ty=>Lib.run_next_any_at (P:=Tryz.prog) wr w.heap.size ⟨#[61,58]⟩ p ty HIT.out hp
   rw[decode_ascii _ p hp hlow]at hnx
   have HT2:Hid ((wr.iterAt w.heap.size ⟨#[61,58]⟩ (p+1)).heap[w.heap.size]?=some (.stringIter ⟨#[61,58]⟩ (p+1))):=hit2
   have t1:((((⟨#[61,58]⟩:ByteArray)[p]'hp).toNat:Int)==65533)=false:=by rw[beq_eq_false_iff_ne];omega
   clear hit2 HIT hbel
   generalize hr:((⟨#[61,58]⟩:ByteArray)[p]'hp).toNat=r at*
   clear hr
   generalize hW:wr.iterAt w.heap.size ⟨#[61,58]⟩ (p+1)=W at*
   go_wp2
   go_roundg(2-(p+1))
   case measure=>have:=HGK.out;omega
   case rel=>exact⟨p+1,rfl,HT2,hb2⟩
  ·have hnx:=fun ty=>Lib.run_next_end_at (P:=Tryz.prog) wr w.heap.size ⟨#[61,58]⟩ p ty HIT.out hp
   clear HIT
   go_wp2
   go_ret
   exact⟨rfl,hbel⟩
theorem Hy(s:ByteArray)(p:Nat)(hp:p<s.size):(Utf8.decode s p).1≤1114111∧((Utf8.decode s p).1<55296∨57343<(Utf8.decode s p).1):=by
 have hb:∀x:UInt8,x.toNat<256:=fun x=>x.toNat_lt
 have v:∀x:Nat,Utf8.valid (x:Int)=true→x≤1114111∧(x<55296∨57343<x):=by
  intro x h
  unfold Utf8.valid at h
  simp at h
  omega
 generalize hd:Utf8.decode s p=d
 unfold Utf8.decode at hd
 simp only[]at hd
 have e:Utf8.runeError=65533:=rfl
 have h0:=hb (s.get! (p+0))
 have h1:=hb (s.get! (p+1))
 repeat' split at hd
 all_goals subst hd
 all_goals simp only[Bool.and_eq_true,decide_eq_true_eq]at*
 all_goals first|omega|(rename_i q;exact v _ q.2)
/--What strings.IndexRune answers of any rune that a text holds. -/
theorem Jv(c:Nat)(w:World)(hm:c≤1114111)(hv:c<55296∨57343<c):
  Calls Tryz.prog 124 #[.string ⟨#[61,58]⟩,.int .i32 c] w fun e w'=>∃k,e=.returned (.int .i64 k)∧(0≤k↔(c=61∨c=58))∧Below w.heap.size w w':=by
 rcases Nat.lt_or_ge c 128 with h|h
 ·exact Jt c w h
 ·by_cases h3:c=65533
  ·subst h3
   refine(Ju w).mono ?_
   rintro e w'⟨rfl,hb⟩
   exact⟨-1,rfl,⟨fun h=>by omega,fun h=>by omega⟩,hb⟩
  ·refine(FP c w h hm h3 hv).mono ?_
   rintro e w'⟨rfl,hb⟩
   exact⟨-1,rfl,⟨fun h=>by omega,fun h=>by omega⟩,hb⟩
theorem Im(s:ByteArray)(w:World)(h8:s.size≤8):
  Calls Tryz.prog 99 #[.string s,.string ⟨#[61,58]⟩] w fun e w'=>e=.returned (.int .i64 (iW s))∧Below w.heap.size w w':=by
 have t8:¬(8:Int)<(s.size:Int):=by omega
 go_enter Tryz.func99,Tryz.ntmps99
 go_wp2
 go_loopg[]s.size(fun k wr=>∃p:Nat,k=s.size-p∧Hid (∀j,j<p→j<s.size→¬mk s j)∧Hid (wr.heap[w.heap.size]?=some (.stringIter s p))∧Below w.heap.size w wr)
 case atStart=>exact⟨0,rfl,fun j h=>absurd h (Nat.not_lt_zero _),World.iter_heap w _ 0,(Below.refl _ _).alloc (Nat.le_refl _) _⟩
 case round=>
  obtain⟨p,IC,HNB,HIT,hbel⟩:=hrel
  have HGK:Hid (gk=s.size-p):=IC
  clear IC
  by_cases hp:p<s.size
  ·have he:=kL s p hp
   have hq1:1≤(Utf8.decode s p).2:=by
    by_cases ha:(s[p]'hp).toNat<128
    ·rw[decode_ascii s p hp ha];exact Nat.le_refl _
    ·exact(decode_high s p hp (by omega)).2
   have hit2:=Lib.iterAt_heap wr w.heap.size s p (p+(Utf8.decode s p).2) HIT.out
   have hb2:=Lib.below_iterAt hbel (k:=w.heap.size) (Nat.le_refl _) s (p+(Utf8.decode s p).2)
   have hnx:=fun ty=>Lib.run_next_any_at (P:=Tryz.prog) wr w.heap.size s p ty HIT.out hp
   have HT2:Hid ((wr.iterAt w.heap.size s (p+(Utf8.decode s p).2)).heap[w.heap.size]?=some (.stringIter s (p+(Utf8.decode s p).2))):=hit2
   obtain⟨hm1,hm2⟩:=Hy s p hp
   have HHIT:Hid (((Utf8.decode s p).1=61∨(Utf8.decode s p).1=58)→iW s=p):=by
    intro h
    have ha:(s[p]'hp).toNat<128:=by
     rcases Nat.lt_or_ge (s[p]'hp).toNat 128 with h'|h'
     ·exact h'
     ·have:=(decode_high s p hp h').1;omega
    rw[decode_ascii s p hp ha]at h
    exact sD s p hp HNB.out (by unfold mk;rw[he];simp only[]at h;omega)
   have Mk:Hid (¬((Utf8.decode s p).1=61∨(Utf8.decode s p).1=58)→∀j,j<p+(Utf8.decode s p).2→j<s.size→¬mk s j):=by
    intro h j h1 h2
    rcases Nat.lt_or_ge j p with h3|h3
    ·exact HNB.out j h3 h2
    ·by_cases ha:(s[p]'hp).toNat<128
     ·rw[decode_ascii s p hp ha]at h h1
      simp only[]at h h1
      obtain rfl:j=p:=by omega
      unfold mk;rw[he];omega
     ·rcases Nat.eq_or_lt_of_le h3 with rfl|h4
      ·unfold mk;rw[he];omega
      ·have:=qB s p j h4 h1
       have e:=Ez s j h2
       unfold mk
       omega
   have RU:=fun W=>Jv (Utf8.decode s p).1 W hm1 hm2
   clear hit2 HIT hbel he HNB
   generalize hr:(Utf8.decode s p).1=r at*
   generalize hqq:(Utf8.decode s p).2=q at*
   clear hr hqq
   generalize hW:wr.iterAt w.heap.size s (p+q)=W at*
   clear hW
   go_wp2_with fail
   refine(RU W).mono ?_
   rintro e w3⟨k,rfl,hk,b3⟩
   clear RU
   have b13:=hb2.trans (b3.mono hb2.size)
   have HT3:Hid (w3.heap[w.heap.size]?=some (.stringIter s (p+q))):=(b3.block _ (Array.getElem?_eq_some_iff.1 HT2.out).1).trans HT2.out
   have HK:Hid (0≤k↔(r=61∨r=58)):=hk
   clear hk HT2
   by_cases hk0:(0:Int)≤k
   ·have HB:Hid (iW s=p):=HHIT.out (HK.out.1 hk0)
    clear HHIT Mk HK
    go_wp2
    try rw[Exit.noGoto_ret]
    go_ret
    exact⟨by rw[HB.out];rfl,b13⟩
   ·have HM:=Mk.out (fun h=>hk0 (HK.out.2 h))
    have HM2:Hid (∀j,j<p+q→j<s.size→¬mk s j):=HM
    clear HHIT Mk HK HM
    go_wp2
    go_roundg(s.size-(p+q))
    case measure=>have:=HGK.out;omega
    case rel=>exact⟨p+q,rfl,HM2,HT3,b13⟩
  ·have hnx:=fun ty=>Lib.run_next_end_at (P:=Tryz.prog) wr w.heap.size s p ty HIT.out hp
   have HB:Hid (iW s=-1):=pM s (fun j hj=>HNB.out j (by omega) hj)
   clear HIT HNB
   go_wp2
   try rw[Exit.noGoto_ret]
   go_ret
   exact⟨by rw[HB.out];rfl,hbel⟩
theorem info256:(Tryz.prog.info? 154).map (fun i=>(i.zero,i.size))=some (some (.agg (Array.replicate 256 (.bool false))),256):=by kernel_rfl
theorem size256:(Tryz.prog.info? 154).map (·.size)=some 256:=by kernel_rfl
theorem LX(s:ByteArray)(w:World)(h8:8<s.size)(hs:s.size≤140737488355328):
  Calls Tryz.prog 99 #[.string s,.string ⟨#[61,58]⟩] w fun e w'=>e=.returned (.int .i64 (iW s))∧Below w.heap.size w w':=by
 have MS:=Tryz.strings_makeASCIISet (zero_of_info info256).1 ⟨#[61,58]⟩ w (by decide) (ascii_of_all (by decide))
 have t8:(8:Int)<(s.size:Int):=by omega
 have SH:=Tryz.strings_shouldUseASCIISet (s.size:Int) w
 obtain⟨C,hC⟩:∃C,Lib.setCells (⟨#[61,58]⟩:ByteArray).data.toList=C:=⟨_,rfl⟩
 have SC:(storeCells ⟨w.heap.size+1,0,none⟩ C.toList 0).run Tryz.prog ((w.alloc (.cells C 154)).alloc (.cells (Array.replicate 256 (.bool false)) 154))=.ok () ((w.alloc (.cells C 154)).alloc (.cells C 154)):=by
  have:=run_storeCells_new (P:=Tryz.prog) (w.alloc (.cells C 154)) 154 (Array.replicate 256 (.bool false)) C (by rw[←hC,Lib.setCells_size];exact size256) (by rw[←hC,Lib.setCells_size,Array.size_replicate]) (by rw[←hC];exact Lib.setCells_one _)
  simpa using this
 rw[show Array.replicate 256 (Value.bool false)=Tryz.zeroCells154 from by kernel_rfl]at SC
 have HCE:Hid (∀(i:Nat)(h:i<s.size),((w.alloc (.cells C 154)).alloc (.cells C 154)).cell? ⟨w.heap.size+1,(s[i]'h).toNat,none⟩=some (.bool (([61,58]:List UInt8).contains (s[i]'h)))):=fun i h=>by
  rw[World.cell?_alloc_at _ _ _ _ (by simp),←hC,Lib.setCells_at]
 have HBE:Hid (Below w.heap.size w ((w.alloc (.cells C 154)).alloc (.cells C 154))):=((Below.refl _ w).alloc (Nat.le_refl _) _).alloc (by simp) _
 have HMK:Hid (∀(i:Nat)(h:i<s.size),mk s i↔([61,58]:List UInt8).contains (s[i]'h)=true):=Cj s
 have hcz:C.size=256:=by rw[←hC];exact Lib.setCells_size _
 rw[hC]at MS
 clear hC
 go_enter Tryz.func99,Tryz.ntmps99
 go_wp2_with fail
 refine SH.mono ?_
 rintro e w1⟨rfl,hw1⟩
 rw[hw1]
 clear hw1
 go_wp2_with fail
 refine MS.mono ?_
 rintro e w2⟨rfl,hw2⟩
 rw[hw2]
 clear hw2
 go_wp2
 clear MS SC SH
 generalize hW:(w.alloc (.cells C 154)).alloc (.cells C 154)=W at*
 go_loopw[8](fun i wz=>∃p:Nat,p≤s.size∧i=.int .i64 p∧Hid (∀j,j<p→j<s.size→¬mk s j)∧wz=W)(fun i _=>s.size-(RowKit.intOf i).toNat)
 case atStart=>exact⟨0,Nat.zero_le _,rfl,fun j h=>absurd h (Nat.not_lt_zero _),rfl⟩
 case round=>
  obtain⟨p,hp,rfl,HN,hz⟩:=hrel
  subst hz
  by_cases hlt:p<s.size
  ·have hlt':(p:Int)<(s.size:Int):=by omega
   have hm:=HMK.out p hlt
   have hcell:=HCE.out p hlt
   obtain⟨x,hx⟩:∃x:UInt8,s[p]'hlt=x:=⟨_,rfl⟩
   rw[hx]at hm hcell
   have hr0:((s[p]'hlt).toNat:Int)=(x.toNat:Int):=by rw[hx]
   clear hx
   cases hin:([61,58]:List UInt8).contains x with
   |false=>
    rw[hin]at hm hcell
    have HN2:Hid (∀j,j<p+1→j<s.size→¬mk s j):=fun j h1 h2=>by
     rcases Nat.lt_or_ge j p with h3|h3
     ·exact HN.out j h3 h2
     ·obtain rfl:j=p:=by omega
      exact fun h=>by have:=hm.1 h;cases this
    have CO:=Tryz.asciiSet_contains (w.heap.size+1) x false wr hcell
    clear hm hcell hin HN
    go_wp2_with fail
    refine CO.mono ?_
    rintro e w2⟨rfl,hw2⟩
    subst hw2
    go_wp2
    exact⟨⟨p+1,by omega,by go_num,HN2,by trivial⟩,by simp[Go.RowKit.intOf];omega⟩
   |true=>
    rw[hin]at hm hcell
    have HM:Hid (iW s=p):=sD s p hlt HN.out (hm.2 rfl)
    have CO:=Tryz.asciiSet_contains (w.heap.size+1) x true wr hcell
    clear hm hcell hin HN
    go_wp2_with fail
    refine CO.mono ?_
    rintro e w2⟨rfl,hw2⟩
    subst hw2
    go_wp2
    go_ret
    exact⟨by rw[HM.out];rfl,HBE.out⟩
  ·have hge:¬(p:Int)<(s.size:Int):=by omega
   have HM:Hid (iW s=-1):=pM s (fun j hj=>HN.out j (by omega) hj)
   go_wp2
   go_ret
   exact⟨by rw[HM.out];rfl,HBE.out⟩
theorem any_any(s:ByteArray)(w:World)(hs:s.size≤140737488355328):
  Calls Tryz.prog 99 #[.string s,.string ⟨#[61,58]⟩] w fun e w'=>e=.returned (.int .i64 (iW s))∧Below w.heap.size w w':=by
 rcases Nat.lt_or_ge 8 s.size with h|h
 ·exact LX s w h hs
 ·exact Im s w h
end Go.Proofs.YtgbkolonhddolaaGreatDoor.nam
namespace Go.Proofs.YtgbkolonhddolaaGreatDoor.nam
open Go.RowKit lin
/--What a property and a value of it name. -/
def bothL(p v:List UInt8):Int×List UInt8×Int:=
 match bM ([112,114],aW p)with
 |none=>(0,[],50)
 |some r=>match bM (r.2.1,aW v)with
  |none=>(0,[],51)
  |some q=>(oo r.2.1,q.2.1,0)
def aI(s:ByteArray):Int×List UInt8×Int:=
 if iW s<0 then aloneL (aW s.data.toList)else bothL (s.data.toList.take (iW s).toNat) (s.data.toList.drop ((iW s).toNat+1))
theorem both0{p v:List UInt8}(h:bM ([112,114],aW p)=none):bothL p v=(0,[],50):=by unfold bothL;rw[h]
theorem both1{p v:List UInt8}{r:R3}(h:bM ([112,114],aW p)=some r)(h2:bM (r.2.1,aW v)=none):bothL p v=(0,[],51):=by unfold bothL;simp only[h,h2]
theorem both2{p v:List UInt8}{r q:R3}(h:bM ([112,114],aW p)=some r)(h2:bM (r.2.1,aW v)=some q):bothL p v=(oo r.2.1,q.2.1,0):=by unfold bothL;simp only[h,h2]
theorem KY(s:ByteArray)(p:Nat):s.extract 0 p=BA (s.data.toList.take p):=by rw[ext_list];simp
theorem K4(s:ByteArray)(p:Nat):s.extract p s.size=BA (s.data.toList.drop p):=by
 rw[ext_list,List.take_of_length_le]
 simp
theorem Hr{w w':World}{n:Nat}(h:Below n w w'):Below n w w'.drew:=⟨h.os,h.tape,h.output,h.size,h.block⟩
theorem zV{w w':World}{n:Nat}(h:Below n w.drew w'):Below n w w':=⟨h.os,h.tape,h.output,h.size,h.block⟩
theorem Av{w:World}{g:Nat}{x y:Value}{t:TypeId}(h:w.heap[g]?=some (.cells #[x,y] t (0,0))):w.cell? ⟨g,0,none⟩=some x∧w.cell? ⟨g,1,none⟩=some y∧w.frozen? ⟨g,0,none⟩=false∧w.frozen? ⟨g,1,none⟩=false:=by
 simp[World.cell?,World.frozen?,h]
theorem uZ{w:World}{g:Nat}{x y:Value}{t:TypeId}(h:w.heap[g]?=some (.cells #[x,y] t (0,0)))(a b:Value):
  ((w.setCell ⟨g,0,none⟩ a).setCell ⟨g,1,none⟩ b).heap[g]?=some (.cells #[a,b] t (0,0)):=by
 have h1:=heap_setCell_same w g 0 _ _ a h
 have h2:=heap_setCell_same _ g 1 _ _ b h1
 exact h2
theorem yZ(s:ByteArray)(w:World)(hs:s.size≤140737488355327):
  Calls Tryz.prog 72 #[.string s] w fun e w'=>e=.returned (.tuple #[.int .i64 (aI s).1,.string (BA (aI s).2.1),.int .i64 (aI s).2.2])∧Below w.heap.size w w':=by
 have FA:=KX w
 go_enter Tryz.func72,Tryz.ntmps72
 go_wp2_with fail
 refine FA.mono ?_
 rintro e w1⟨b,rfl,hb,hm1,b1⟩
 clear FA
 have AN:=any_any s w1 (by omega)
 have hs1:=b1.size
 go_wp2_with fail
 refine AN.mono ?_
 rintro e w2⟨rfl,hb2⟩
 clear AN
 have hm2:=hm1.below hb2
 have b2:=b1.trans (hb2.mono hs1)
 have hs2:=b2.size
 clear hm1 hb2 b1
 have hll:=iX s.data.toList
 rw[gI]at hll
 rcases Co s with⟨hmk,_⟩|⟨p,hmk,hp,_,_⟩
 ·have HE:Hid (aI s=aloneL (aW s.data.toList)):=by unfold Hid aI;rw[if_pos (by rw[hmk];decide)]
  have LO:=jS s w2 hs
  rw[hmk]
  clear hmk
  generalize aW s.data.toList=l at*
  go_wp2_with fail
  refine LO.mono ?_
  rintro e w3⟨rfl,hb3⟩
  have AL:=Io b l w3 (hm2.below hb3) (by omega)
  clear LO
  go_wp2_with fail
  refine AL.mono ?_
  rintro e w4⟨rfl,hb4⟩
  clear AL
  have b4:=(b2.trans (hb3.mono hs2)).trans (hb4.mono (b2.trans (hb3.mono hs2)).size)
  go_wp2
  go_ret3
  exact⟨by rw[HE.out];rfl,b4⟩
 ·have HE:Hid (aI s=bothL (s.data.toList.take p) (s.data.toList.drop (p+1))):=by unfold Hid aI;rw[hmk,if_neg (by omega)];rfl
  have x1:=KY s p
  have x2:=K4 s (p+1)
  have hl1:(s.data.toList.take p).length≤s.size:=by rw[List.length_take,gI];omega
  have hl2:(s.data.toList.drop (p+1)).length≤s.size:=by rw[List.length_drop,gI];omega
  generalize s.data.toList.take p=P at*
  generalize s.data.toList.drop (p+1)=V at*
  have LO:=jS (BA P) w2 (by rw[cB];omega)
  rw[gZ]at LO
  have hl3:=iX P
  have hl4:=iX V
  have hp0:¬(p:Int)<0:=by omega
  have hp1:(p:Int)≤(s.size:Int):=by omega
  have hp2:(p:Int)+1≤(s.size:Int):=by omega
  rw[hmk]
  clear hmk
  go_wp2_with fail
  refine LO.mono ?_
  rintro e w3⟨rfl,hb3⟩
  clear LO
  have hm3:=hm2.below hb3
  have b3:=b2.trans (hb3.mono hs2)
  have hs3:=b3.size
  clear hm2 hb3 b2
  cases hlk:bM ([112,114],aW P)with
  |none=>
   have LK:(Instr.lookup 127 (.map (some b)) (.agg #[.string ⟨#[112,114]⟩,.string (BA (aW P))]) true).run Tryz.prog w3=.ok (.tuple #[.agg #[.string ⟨#[]⟩,.string ⟨#[]⟩],.bool false]) w3:=pR hm3 (k:=[112,114]) (by decide) (by omega) hlk
   have HE2:Hid (aI s=(0,[],50)):=HE.out.trans (both0 hlk)
   clear hlk HE
   go_wp2
   go_ret3
   exact⟨by rw[HE2.out];rfl,b3.alloc hs3 _⟩
  |some r=>
   have LK:(Instr.lookup 127 (.map (some b)) (.agg #[.string ⟨#[112,114]⟩,.string (BA (aW P))]) true).run Tryz.prog w3=.ok (.tuple #[.agg #[.string (BA r.2.1),.string (BA r.2.2)],.bool true]) w3:=pQ hm3 (k:=[112,114]) (by decide) (by omega) hlk
   have hrs:=jZ r (sG hlk).1
   have HE1:Hid (bM (r.2.1,aW V)=none→aI s=(0,[],51)):=fun h=>HE.out.trans (both1 hlk h)
   have HE2:Hid (∀q,bM (r.2.1,aW V)=some q→aI s=(oo r.2.1,q.2.1,0)):=fun q h=>HE.out.trans (both2 hlk h)
   clear hlk HE
   obtain⟨r0,r1,r2⟩:=r
   simp only at LK hrs HE1 HE2
   obtain⟨xa,xb,JR,LQ,HE3⟩:∃(xa xb:List UInt8)(JR:Bool),Hid (∀w',Nm w' b→(Instr.lookup 127 (.map (some b)) (.agg #[.string (BA r1),.string (BA (aW V))]) true).run Tryz.prog w'=.ok (.tuple #[.agg #[.string (BA xa),.string (BA xb)],.bool JR]) w')∧Hid (aI s=if JR then(oo r1,xa,0)else(0,[],51)):=by
    cases hlq:bM (r1,aW V)with
    |none=>exact⟨[],[],false,fun w' h=>pR h (by omega) (by omega) hlq,HE1.out hlq⟩
    |some q=>exact⟨q.2.1,q.2.2,true,fun w' h=>pQ h (by omega) (by omega) hlq,HE2.out q hlq⟩
   clear HE1 HE2
   have LV:Hid (∀W,Calls Tryz.prog 101 #[.string (BA V)] W fun e w'=>e=.returned (.string (BA (aW V)))∧Below W.heap.size W w'):=fun W=>jS (BA V) W (by rw[cB];omega)
   have NU:Hid (∀W,Calls Tryz.prog 102 #[.string (BA r1)] W fun e w'=>e=.returned (.int .i64 (oo r1))∧w'=W):=fun W=>dI r1 W
   have hp3:(0:Int)≤(p:Int)+1:=by omega
   have wp1:IntKind.i64.wrap ((p:Int)+1)=(p:Int)+1:=by rw[IntKind.wrap_i64];omega
   go_wp2
   have hm4:=hm3.below ((Below.refl _ w3).alloc (Nat.le_refl _) (.cells #[.string (BA r1),.string (BA r2)] 133))
   have b4:=b3.alloc hs3 (.cells #[.string (BA r1),.string (BA r2)] 133)
   have nb4:(w3.alloc (.cells #[.string (BA r1),.string (BA r2)] 133)).heap[w3.heap.size]?=some (.cells #[.string (BA r1),.string (BA r2)] 133 (0,0)):=World.alloc_heap_new _ _
   have hz4:w3.heap.size<(w3.alloc (.cells #[.string (BA r1),.string (BA r2)] 133)).heap.size:=by rw[World.size_alloc];omega
   obtain⟨W4,hW4⟩:∃W4,w3.alloc (.cells #[.string (BA r1),.string (BA r2)] 133)=W4:=⟨_,rfl⟩
   rw[hW4]at hm4 b4 nb4 hz4⊢
   clear hW4 hm3 b3 LK
   have c0:=(Av nb4).1
   have hs4:=b4.size
   refine wp_region_noPanic ?_
   refine wp_region_held_drew (S:=fun w'=>w'.cell? ⟨w3.heap.size,0,none⟩=some (.string (BA r1))∧Nm w' b) (by kernel_rfl) ?_ (fun hHeld=>?_)
   ·exact⟨c0,hm4⟩
   refine lin.eT 0 (v:=?_) rfl (by kernel_rfl) (fun _ _ _ h=>h) (by rfl) ?_ (by assumption) ?_
   rotate_left
   ·(intro w' hSw;(try dsimp only at hSw);go_simp;try with_reducible rfl)
   try simp only[Act.put,lin.sm]
   refine lin.eT 1 (v:=?_) rfl (by kernel_rfl) (fun _ _ _ h=>h) (by rfl) ?_ (by assumption) ?_
   rotate_left
   ·(intro w' hSw;(try dsimp only at hSw);go_simp;try with_reducible rfl)
   try simp only[Act.put,lin.sm]
   refine lin.eT 2 (v:=?_) rfl (by kernel_rfl) (fun _ _ _ h=>h) (by rfl) ?_ (by assumption) ?_
   rotate_left
   ·(intro w' hSw;(try dsimp only at hSw);go_simp;try with_reducible rfl)
   try simp only[Act.put,lin.sm]
   refine lin.eT 3 (v:=?_) rfl (by kernel_rfl) (fun _ _ _ h=>h) (by rfl) ?_ (by assumption) ?_
   rotate_left
   ·(intro w' hSw;(try dsimp only at hSw);go_simp;try with_reducible rfl)
   try simp only[Act.put,lin.sm]
   refine lin.eT 4 (v:=?_) rfl (by kernel_rfl) (fun _ _ _ h=>h) (by rfl) ?_ (by assumption) ?_
   rotate_left
   ·(intro w' hSw;(try dsimp only at hSw);go_simp;try with_reducible rfl)
   try simp only[Act.put,lin.sm]
   refine lin.eT 5 (v:=?_) rfl (by kernel_rfl) (fun _ _ _ h=>h) (by rfl) ?_ (by assumption) ?_
   rotate_left
   ·(intro w' hSw;(try dsimp only at hSw);go_simp;try with_reducible rfl)
   try simp only[Act.put,lin.sm]
   refine lin.eT 6 (v:=?_) rfl (by kernel_rfl) (fun _ _ _ h=>h) (by rfl) ?_ (by assumption) ?_
   rotate_left
   ·(intro w' hSw;(try dsimp only at hSw);go_simp;try with_reducible rfl)
   try simp only[Act.put,lin.sm]
   refine wpAnyH_ready (rs:=[7,13]) (by kernel_rfl) (by simp) ?_
   refine AllReadyH.cons rfl (fun K hK=>?_) (AllReadyH.cons rfl (fun K hK=>?_) AllReadyH.nil)
   ·go_simp
    refine(LV.out _).mono ?_
    rintro e w5⟨rfl,hb5⟩
    have hb5:=zV hb5
    have c5:w5.cell? ⟨w3.heap.size,0,none⟩=some (.string (BA r1)):=(hb5.cell (p:=⟨w3.heap.size,0,none⟩) (by show w3.heap.size<W4.heap.size;omega)).trans c0
    have hm5:Nm w5 b:=hm4.below hb5
    have b5:Below w.heap.size w w5:=b4.trans (hb5.mono hs4)
    have hs5:=b5.size
    have hs45:=hb5.size
    have Ct:w3.heap.size<w5.heap.size:=by omega
    have hne5:¬w3.heap.size=w5.heap.size:=by omega
    clear hHeld hb5 hm4 nb4 c0
    refine hK.out _ _ ?_ (fun hHeld=>?_)
    ·exact⟨c5,hm5⟩
    clear hK K
    try simp only[Act.put,lin.sm]
    refine lin.eT 8 (v:=?_) rfl (by kernel_rfl) (fun _ _ _ h=>h) (by rfl) ?_ (by assumption) ?_
    rotate_left
    ·(intro w' hSw;(try dsimp only at hSw);go_simp;try with_reducible rfl)
    try simp only[Act.put,lin.sm]
    refine lin.eT 9 (v:=?_) rfl (by kernel_rfl) (fun _ _ _ h=>h) (by rfl) ?_ (by assumption) ?_
    rotate_left
    ·(intro w' hSw;have LQ1:=LQ.out w' hSw.2;go_simp;try with_reducible rfl)
    try simp only[Act.put,lin.sm]
    refine lin.eT 10 (v:=?_) rfl (by kernel_rfl) (fun _ _ _ h=>h) (by rfl) ?_ (by assumption) ?_
    rotate_left
    ·(intro w' hSw;(try dsimp only at hSw);go_simp;try with_reducible rfl)
    try simp only[Act.put,lin.sm]
    refine lin.eT 11 (v:=?_) rfl (by kernel_rfl) (fun _ _ _ h=>h) (by rfl) ?_ (by assumption) ?_
    rotate_left
    ·(intro w' hSw;(try dsimp only at hSw);go_simp;try with_reducible rfl)
    try simp only[Act.put,lin.sm]
    refine lin.eT 12 (v:=?_) rfl (by kernel_rfl) (fun _ _ _ h=>h) (by rfl) ?_ (by assumption) ?_
    rotate_left
    ·(intro w' hSw;(try dsimp only at hSw);go_simp;try with_reducible rfl)
    try simp only[Act.put,lin.sm]
    refine wpAnyH_ready (rs:=[13]) (by kernel_rfl) (by simp) ?_
    refine AllReadyH.cons rfl (fun K hK=>?_) AllReadyH.nil
    go_simp
    refine hK.out _ _ ?_ (fun hHeld=>?_)
    ·exact⟨(World.cell?_alloc_past _ _ _ (by omega)).trans c5,hm5.below ((Below.refl _ w5).alloc (Nat.le_refl _) _)⟩
    clear hK K
    try simp only[Act.put,lin.sm]
    refine wpAnyH_ready (rs:=[14]) (by kernel_rfl) (by simp) ?_
    refine AllReadyH.cons rfl (fun K hK=>?_) AllReadyH.nil
    go_simp
    refine hK.out _ _ ?_ (fun hHeld=>?_)
    ·exact⟨(World.cell?_alloc_past _ _ _ (by omega)).trans c5,hm5.below ((Below.refl _ w5).alloc (Nat.le_refl _) _)⟩
    clear hK K
    try simp only[Act.put,lin.sm]
    refine lin.eT 15 (v:=?_) rfl (by kernel_rfl) (fun _ _ _ h=>h) (by rfl) ?_ (by assumption) ?_
    rotate_left
    ·(intro w' hSw;(try dsimp only at hSw);go_simp;try with_reducible rfl)
    try simp only[Act.put,lin.sm]
    refine wpAnyH_done (by kernel_rfl) ?_ _
    refine NoPanic.normal ?_
    clear hHeld
    cases JR with
    |false=>
     go_wp2
     go_ret3
     exact⟨by rw[(HE3.out:aI s=_)];rfl,have q:=b5.alloc hs5 _;⟨q.os,q.tape,q.output,q.size,q.block⟩⟩
    |true=>
     go_wp2
     go_quiet(exact(NU.out _).mono fun _ _ h=>⟨h.1,_,h.2⟩)
     go_wp2
     go_ret3
     exact⟨by rw[(HE3.out:aI s=_)];rfl,have q:=b5.alloc hs5 _;⟨q.os,q.tape,q.output,q.size,q.block⟩⟩
   ·go_simp
    have nbA:(W4.drew.alloc (.cells #[.string ⟨#[]⟩,.string ⟨#[]⟩] 133)).heap[W4.heap.size]?=some (.cells #[.string ⟨#[]⟩,.string ⟨#[]⟩] 133 (0,0)):=World.alloc_heap_new _ _
    have cA:(W4.alloc (.cells #[.string ⟨#[]⟩,.string ⟨#[]⟩] 133)).drew.cell? ⟨w3.heap.size,0,none⟩=some (.string (BA r1)):=(World.cell?_alloc_past _ _ _ (by omega)).trans c0
    have bA:Below W4.heap.size W4 (W4.alloc (.cells #[.string ⟨#[]⟩,.string ⟨#[]⟩] 133)).drew:=Hr ((Below.refl _ W4).alloc (Nat.le_refl _) _)
    have hmA:=hm4.below bA
    refine hK.out _ _ ?_ (fun jm=>?_)
    ·exact⟨cA,hmA⟩
    clear hK K hHeld
    have hHeld:=jm
    clear jm
    try simp only[Act.put,lin.sm]
    refine wpAnyH_ready (rs:=[7]) (by kernel_rfl) (by simp) ?_
    refine AllReadyH.cons rfl (fun K hK=>?_) AllReadyH.nil
    go_simp
    refine(LV.out _).mono ?_
    rintro e w5⟨rfl,hb5⟩
    have hb5:=zV hb5
    have szA:(W4.alloc (.cells #[.string ⟨#[]⟩,.string ⟨#[]⟩] 133)).drew.heap.size=W4.heap.size+1:=World.size_alloc _ _
    have hb6:Below (W4.heap.size+1) (W4.alloc (.cells #[.string ⟨#[]⟩,.string ⟨#[]⟩] 133)) w5:=by rw[←szA];exact hb5
    have c5:w5.cell? ⟨w3.heap.size,0,none⟩=some (.string (BA r1)):=(hb6.cell (p:=⟨w3.heap.size,0,none⟩) (by show w3.heap.size<_;omega)).trans cA
    have hm5:Nm w5 b:=(hm4.below (bA)).below (w':=w5) (by rw[szA];exact⟨hb6.os,hb6.tape,hb6.output,hb6.size,hb6.block⟩)
    have nb5:w5.heap[W4.heap.size]?=some (.cells #[.string ⟨#[]⟩,.string ⟨#[]⟩] 133 (0,0)):=(hb6.block _ (by omega)).trans nbA
    have b5:Below w.heap.size w w5:=(b4.trans (bA.mono hs4)).trans (⟨hb6.os,hb6.tape,hb6.output,hb6.size,fun k hk=>hb6.block k (by omega)⟩:Below w.heap.size (W4.alloc (.cells #[.string ⟨#[]⟩,.string ⟨#[]⟩] 133)).drew w5)
    obtain⟨g0,g1,g2,g3⟩:=Av nb5
    have hs5:=b5.size
    have hs6:=hb6.size
    have nb6:=uZ nb5 (.string (BA xa)) (.string (BA xb))
    have T6:aj (fun k=>k=W4.heap.size) w5 ((w5.setCell ⟨W4.heap.size,0,none⟩ (.string (BA xa))).setCell ⟨W4.heap.size,1,none⟩ (.string (BA xb))):=⟨rfl,rfl,rfl,by simp,fun k hk hd=>by rw[heap_setCell_other _ _ _ _ hd,heap_setCell_other _ _ _ _ hd]⟩
    have c6:=aO T6 c5 (by show¬w3.heap.size=_;omega)
    have hm6:Nm _ b:=hm5.turns T6 (fun h=>by have:=hm4.lt;omega)
    have b6:=b5.trans (T6.below hs5 (fun k h=>by omega))
    obtain⟨k0,k1,k2,k3⟩:=Av nb6
    have hlt4:w3.heap.size<W4.heap.size:=by omega
    have hne4:¬w3.heap.size=W4.heap.size:=by omega
    have hne4':¬W4.heap.size=w3.heap.size:=by omega
    clear hHeld hb5 hb6 nb4 c0 bA hmA cA nbA
    refine hK.out _ _ ?_ (fun hHeld=>?_)
    ·exact⟨c5,hm5⟩
    clear hK K
    try simp only[Act.put,lin.sm]
    refine lin.eT 8 (v:=?_) rfl (by kernel_rfl) (fun _ _ _ h=>h) (by rfl) ?_ (by assumption) ?_
    rotate_left
    ·(intro w' hSw;(try dsimp only at hSw);go_simp;try with_reducible rfl)
    try simp only[Act.put,lin.sm]
    refine lin.eT 9 (v:=?_) rfl (by kernel_rfl) (fun _ _ _ h=>h) (by rfl) ?_ (by assumption) ?_
    rotate_left
    ·(intro w' hSw;have LQ1:=LQ.out w' hSw.2;go_simp;try with_reducible rfl)
    try simp only[Act.put,lin.sm]
    refine lin.eT 10 (v:=?_) rfl (by kernel_rfl) (fun _ _ _ h=>h) (by rfl) ?_ (by assumption) ?_
    rotate_left
    ·(intro w' hSw;(try dsimp only at hSw);go_simp;try with_reducible rfl)
    try simp only[Act.put,lin.sm]
    refine lin.eT 11 (v:=?_) rfl (by kernel_rfl) (fun _ _ _ h=>h) (by rfl) ?_ (by assumption) ?_
    rotate_left
    ·(intro w' hSw;(try dsimp only at hSw);go_simp;try with_reducible rfl)
    try simp only[Act.put,lin.sm]
    refine lin.eT 12 (v:=?_) rfl (by kernel_rfl) (fun _ _ _ h=>h) (by rfl) ?_ (by assumption) ?_
    rotate_left
    ·(intro w' hSw;(try dsimp only at hSw);go_simp;try with_reducible rfl)
    try simp only[Act.put,lin.sm]
    refine wpAnyH_ready (rs:=[14]) (by kernel_rfl) (by simp) ?_
    refine AllReadyH.cons rfl (fun K hK=>?_) AllReadyH.nil
    go_simp
    refine hK.out _ _ ?_ (fun hHeld=>?_)
    ·exact⟨c6,hm6⟩
    clear hK K
    try simp only[Act.put,lin.sm]
    refine lin.eT 15 (v:=?_) rfl (by kernel_rfl) (fun _ _ _ h=>h) (by rfl) ?_ (by assumption) ?_
    rotate_left
    ·(intro w' hSw;(try dsimp only at hSw);go_simp;try with_reducible rfl)
    try simp only[Act.put,lin.sm]
    refine wpAnyH_done (by kernel_rfl) ?_ _
    refine NoPanic.normal ?_
    clear hHeld
    cases JR with
    |false=>
     go_wp2
     go_ret3
     exact⟨by rw[(HE3.out:aI s=_)];rfl,have q:=b6;⟨q.os,q.tape,q.output,q.size,q.block⟩⟩
    |true=>
     go_wp2
     go_quiet(exact(NU.out _).mono fun _ _ h=>⟨h.1,_,h.2⟩)
     go_wp2
     go_ret3
     exact⟨by rw[(HE3.out:aI s=_)];rfl,have q:=b6;⟨q.os,q.tape,q.output,q.size,q.block⟩⟩
end Go.Proofs.YtgbkolonhddolaaGreatDoor.nam
