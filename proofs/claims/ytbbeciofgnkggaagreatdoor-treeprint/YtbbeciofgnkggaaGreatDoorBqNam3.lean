import Derived.Test.YtbbeciofgnkggaaGreatDoorBqNam2
import Derived.Lib.AsciiSet
import Derived.Lib.Builder
import Derived.Test.YtbbeciofgnkggaaGreatDoorBqLin1
import Derived.Test.YtbbeciofgnkggaaGreatDoorBqLin4
set_option linter.unusedSimpArgs false
set_option linter.unusedVariables false
set_option maxRecDepth 1000000
set_option maxHeartbeats 8000000
namespace Go.Proofs.YtbbeciofgnkggaaGreatDoor.nam
open Go.RowKit lin
def mk(s:ByteArray)(j:Nat):Prop:=at8 s j=61∨at8 s j=58
def markI(s:ByteArray):Int:=Lib.indexAny s.data.toList [61,58]
theorem mk_iff(s:ByteArray)(j:Nat)(h:j<s.size):mk s j↔([61,58]:List UInt8).contains (s[j]'h)=true:=by
 unfold mk
 rw[at8_eq s j h]
 have e:∀n:Nat,n<256→(((s[j]'h).toNat:Int)=n↔s[j]'h=UInt8.ofNat n):=fun n hn=>by rw[u8_eq _ n hn];omega
 rw[show(61:Int)=((61:Nat):Int)from rfl,show(58:Int)=((58:Nat):Int)from rfl,e 61 (by decide),e 58 (by decide)]
 simp
theorem noAny_of(s:ByteArray)(p:Nat)(h:∀j,j<p→j<s.size→¬mk s j):Lib.NoAny s.data.toList [61,58] p:=fun j b hj hb=>by
 have hl:j<s.data.toList.length:=(List.getElem?_eq_some_iff.1 hb).1
 have hl':j<s.size:=by simpa using hl
 have hb2:s[j]'hl'=b:=(List.getElem?_eq_some_iff.1 hb).2
 cases hc:([61,58]:List UInt8).contains b with
 |false=>rfl
 |true=>exact absurd ((mk_iff s j hl').2 (by rw[hb2];exact hc)) (h j hj hl')
theorem mark_hit(s:ByteArray)(p:Nat)(hp:p<s.size)(h:∀j,j<p→j<s.size→¬mk s j)(hm:mk s p):markI s=p:=
 Lib.indexAny_hit (noAny_of s p h) (List.getElem?_eq_getElem (by simpa using hp)) ((mk_iff s p hp).1 hm)
theorem mark_none(s:ByteArray)(h:∀j,j<s.size→¬mk s j):markI s=-1:=
 Lib.indexAny_none (by rw[show s.data.toList.length=s.size from by simp];exact noAny_of s s.size (fun j hj _=>h j hj))
/--It is the first one, or there is none. -/
theorem mark_cases(s:ByteArray):(markI s=-1∧∀j,j<s.size→¬mk s j)∨∃p:Nat,markI s=p∧p<s.size∧mk s p∧∀j,j<p→j<s.size→¬mk s j:=by
 have step:∀k,k≤s.size→(∀j,j<k→j<s.size→¬mk s j)∨∃p:Nat,p<s.size∧mk s p∧∀j,j<p→j<s.size→¬mk s j:=by
  intro k
  induction k with
  |zero=>intro _;exact .inl (fun j h=>absurd h (Nat.not_lt_zero _))
  |succ k ih=>
   intro hk
   rcases ih (by omega)with h|h
   ·by_cases hm:mk s k
    ·exact .inr ⟨k,by omega,hm,h⟩
    ·refine .inl (fun j hj hs=>?_)
     rcases Nat.lt_or_ge j k with h'|h'
     ·exact h j h' hs
     ·obtain rfl:j=k:=by omega
      exact hm
   ·exact .inr h
 rcases step s.size (Nat.le_refl _)with h|⟨p,h1,h2,h3⟩
 ·exact .inl ⟨mark_none s (fun j hj=>h j hj hj),fun j hj=>h j hj hj⟩
 ·exact .inr ⟨p,mark_hit s p h1 h3 h2,h1,h2,h3⟩
theorem setB_size:ByteArray.size ⟨#[61,58]⟩=2:=rfl
theorem setB_low(p:Nat)(hp:p<ByteArray.size ⟨#[61,58]⟩):((⟨#[61,58]⟩:ByteArray)[p]'hp).toNat<128:=by
 have h:∀p:Fin 2,((⟨#[61,58]⟩:ByteArray)[p.val]'(by rw[setB_size];exact p.isLt)).toNat<128:=by decide+kernel
 exact h ⟨p,by rw[setB_size]at hp;exact hp⟩
theorem rune_err(w:World):
  Calls Tryz.prog 169 #[.string ⟨#[61,58]⟩,.int .i32 65533] w fun e w'=>e=.returned (.int .i64 (-1))∧Below w.heap.size w w':=by
 go_enter Tryz.func169,Tryz.ntmps169
 go_wp2
 go_loopg[]2(fun k wr=>∃p:Nat,k=2-p∧Hid (wr.heap[w.heap.size]?=some (.stringIter ⟨#[61,58]⟩ p))∧Below w.heap.size w wr)
 case atStart=>exact⟨0,rfl,World.iter_heap w _ 0,(Below.refl _ _).alloc (Nat.le_refl _) _⟩
 case round=>
  obtain⟨p,hgk,HIT,hbel⟩:=hrel
  have HGK:Hid (gk=2-p):=hgk
  clear hgk
  by_cases hp:p<ByteArray.size ⟨#[61,58]⟩
  ·have hlow:=setB_low p hp
   have hp3:p<2:=hp
   have hit2:=Lib.iterAt_heap wr w.heap.size ⟨#[61,58]⟩ p (p+1) HIT.out
   have hb2:=Lib.below_iterAt hbel (k:=w.heap.size) (Nat.le_refl _) ⟨#[61,58]⟩ (p+1)
   have hnx:=fun ty=>Lib.run_next_any_at (P:=Tryz.prog) wr w.heap.size ⟨#[61,58]⟩ p ty HIT.out hp
   rw[decode_ascii _ p hp hlow]at hnx
   have HT2:Hid ((wr.iterAt w.heap.size ⟨#[61,58]⟩ (p+1)).heap[w.heap.size]?=some (.stringIter ⟨#[61,58]⟩ (p+1))):=hit2
   have t1:((((⟨#[61,58]⟩:ByteArray)[p]'hp).toNat:Int)==65533)=false:=by rw[beq_eq_false_iff_ne];omega
   clear hit2 HIT hbel
   generalize hr:((⟨#[61,58]⟩:ByteArray)[p]'hp).toNat=r at*
   clear hr
   generalize hW:wr.iterAt w.heap.size ⟨#[61,58]⟩ (p+1)=W at*
   go_wp2
   go_roundg(2-(p+1))
   case measure=>have:=HGK.out;omega
   case rel=>exact⟨p+1,rfl,HT2,hb2⟩
  ·have hnx:=fun ty=>Lib.run_next_end_at (P:=Tryz.prog) wr w.heap.size ⟨#[61,58]⟩ p ty HIT.out hp
   clear HIT
   go_wp2
   go_ret
   exact⟨rfl,hbel⟩
theorem decode_ok(s:ByteArray)(p:Nat)(hp:p<s.size):(Utf8.decode s p).1≤1114111∧((Utf8.decode s p).1<55296∨57343<(Utf8.decode s p).1):=by
 have hb:∀x:UInt8,x.toNat<256:=fun x=>x.toNat_lt
 have v:∀x:Nat,Utf8.valid (x:Int)=true→x≤1114111∧(x<55296∨57343<x):=by
  intro x h
  unfold Utf8.valid at h
  simp at h
  omega
 generalize hd:Utf8.decode s p=d
 unfold Utf8.decode at hd
 simp only[]at hd
 have e:Utf8.runeError=65533:=rfl
 have h0:=hb (s.get! (p+0))
 have h1:=hb (s.get! (p+1))
 repeat' split at hd
 all_goals subst hd
 all_goals simp only[Bool.and_eq_true,decide_eq_true_eq]at*
 all_goals first|omega|(rename_i q;exact v _ q.2)
/--What strings.IndexRune answers of any rune that a text holds. -/
theorem rune_any(c:Nat)(w:World)(hm:c≤1114111)(hv:c<55296∨57343<c):
  Calls Tryz.prog 169 #[.string ⟨#[61,58]⟩,.int .i32 c] w fun e w'=>∃k,e=.returned (.int .i64 k)∧(0≤k↔(c=61∨c=58))∧Below w.heap.size w w':=by
 rcases Nat.lt_or_ge c 128 with h|h
 ·exact rune_low c w h
 ·by_cases h3:c=65533
  ·subst h3
   refine(rune_err w).mono ?_
   rintro e w'⟨rfl,hb⟩
   exact⟨-1,rfl,⟨fun h=>by omega,fun h=>by omega⟩,hb⟩
  ·refine(rune_high c w h hm h3 hv).mono ?_
   rintro e w'⟨rfl,hb⟩
   exact⟨-1,rfl,⟨fun h=>by omega,fun h=>by omega⟩,hb⟩
theorem any_short(s:ByteArray)(w:World)(h8:s.size≤8):
  Calls Tryz.prog 161 #[.string s,.string ⟨#[61,58]⟩] w fun e w'=>e=.returned (.int .i64 (markI s))∧Below w.heap.size w w':=by
 have t8:¬(8:Int)<(s.size:Int):=by omega
 go_enter Tryz.func161,Tryz.ntmps161
 go_wp2
 go_loopg[]s.size(fun k wr=>∃p:Nat,k=s.size-p∧Hid (∀j,j<p→j<s.size→¬mk s j)∧Hid (wr.heap[w.heap.size]?=some (.stringIter s p))∧Below w.heap.size w wr)
 case atStart=>exact⟨0,rfl,fun j h=>absurd h (Nat.not_lt_zero _),World.iter_heap w _ 0,(Below.refl _ _).alloc (Nat.le_refl _) _⟩
 case round=>
  obtain⟨p,hgk,HNB,HIT,hbel⟩:=hrel
  have HGK:Hid (gk=s.size-p):=hgk
  clear hgk
  by_cases hp:p<s.size
  ·have he:=at8_eq s p hp
   have hq1:1≤(Utf8.decode s p).2:=by
    by_cases ha:(s[p]'hp).toNat<128
    ·rw[decode_ascii s p hp ha];exact Nat.le_refl _
    ·exact(decode_high s p hp (by omega)).2
   have hit2:=Lib.iterAt_heap wr w.heap.size s p (p+(Utf8.decode s p).2) HIT.out
   have hb2:=Lib.below_iterAt hbel (k:=w.heap.size) (Nat.le_refl _) s (p+(Utf8.decode s p).2)
   have hnx:=fun ty=>Lib.run_next_any_at (P:=Tryz.prog) wr w.heap.size s p ty HIT.out hp
   have HT2:Hid ((wr.iterAt w.heap.size s (p+(Utf8.decode s p).2)).heap[w.heap.size]?=some (.stringIter s (p+(Utf8.decode s p).2))):=hit2
   obtain⟨hm1,hm2⟩:=decode_ok s p hp
   have HHIT:Hid (((Utf8.decode s p).1=61∨(Utf8.decode s p).1=58)→markI s=p):=by
    intro h
    have ha:(s[p]'hp).toNat<128:=by
     rcases Nat.lt_or_ge (s[p]'hp).toNat 128 with h'|h'
     ·exact h'
     ·have:=(decode_high s p hp h').1;omega
    rw[decode_ascii s p hp ha]at h
    exact mark_hit s p hp HNB.out (by unfold mk;rw[he];simp only[]at h;omega)
   have HMISS:Hid (¬((Utf8.decode s p).1=61∨(Utf8.decode s p).1=58)→∀j,j<p+(Utf8.decode s p).2→j<s.size→¬mk s j):=by
    intro h j h1 h2
    rcases Nat.lt_or_ge j p with h3|h3
    ·exact HNB.out j h3 h2
    ·by_cases ha:(s[p]'hp).toNat<128
     ·rw[decode_ascii s p hp ha]at h h1
      simp only[]at h h1
      obtain rfl:j=p:=by omega
      unfold mk;rw[he];omega
     ·rcases Nat.eq_or_lt_of_le h3 with rfl|h4
      ·unfold mk;rw[he];omega
      ·have:=decode_tail s p j h4 h1
       have e:=get_at8 s j h2
       unfold mk
       omega
   have RU:=fun W=>rune_any (Utf8.decode s p).1 W hm1 hm2
   clear hit2 HIT hbel he HNB
   generalize hr:(Utf8.decode s p).1=r at*
   generalize hqq:(Utf8.decode s p).2=q at*
   clear hr hqq
   generalize hW:wr.iterAt w.heap.size s (p+q)=W at*
   clear hW
   go_wp2_with fail
   refine(RU W).mono ?_
   rintro e w3⟨k,rfl,hk,b3⟩
   clear RU
   have b13:=hb2.trans (b3.mono hb2.size)
   have HT3:Hid (w3.heap[w.heap.size]?=some (.stringIter s (p+q))):=(b3.block _ (Array.getElem?_eq_some_iff.1 HT2.out).1).trans HT2.out
   have HK:Hid (0≤k↔(r=61∨r=58)):=hk
   clear hk HT2
   by_cases hk0:(0:Int)≤k
   ·have HB:Hid (markI s=p):=HHIT.out (HK.out.1 hk0)
    clear HHIT HMISS HK
    go_wp2
    try rw[Exit.noGoto_ret]
    go_ret
    exact⟨by rw[HB.out];rfl,b13⟩
   ·have HM:=HMISS.out (fun h=>hk0 (HK.out.2 h))
    have HM2:Hid (∀j,j<p+q→j<s.size→¬mk s j):=HM
    clear HHIT HMISS HK HM
    go_wp2
    go_roundg(s.size-(p+q))
    case measure=>have:=HGK.out;omega
    case rel=>exact⟨p+q,rfl,HM2,HT3,b13⟩
  ·have hnx:=fun ty=>Lib.run_next_end_at (P:=Tryz.prog) wr w.heap.size s p ty HIT.out hp
   have HB:Hid (markI s=-1):=mark_none s (fun j hj=>HNB.out j (by omega) hj)
   clear HIT HNB
   go_wp2
   try rw[Exit.noGoto_ret]
   go_ret
   exact⟨by rw[HB.out];rfl,hbel⟩
theorem info256:(Tryz.prog.info? 183).map (fun i=>(i.zero,i.size))=some (some (.agg (Array.replicate 256 (.bool false))),256):=by kernel_rfl
theorem size256:(Tryz.prog.info? 183).map (·.size)=some 256:=by kernel_rfl
theorem any_long(s:ByteArray)(w:World)(h8:8<s.size)(hs:s.size≤140737488355328):
  Calls Tryz.prog 161 #[.string s,.string ⟨#[61,58]⟩] w fun e w'=>e=.returned (.int .i64 (markI s))∧Below w.heap.size w w':=by
 have MS:=Tryz.strings_makeASCIISet (zero_of_info info256).1 ⟨#[61,58]⟩ w (by decide) (ascii_of_all (by decide))
 have t8:(8:Int)<(s.size:Int):=by omega
 have SH:=Tryz.strings_shouldUseASCIISet (s.size:Int) w
 obtain⟨C,hC⟩:∃C,Lib.setCells (⟨#[61,58]⟩:ByteArray).data.toList=C:=⟨_,rfl⟩
 have SC:(storeCells ⟨w.heap.size+1,0,none⟩ C.toList 0).run Tryz.prog ((w.alloc (.cells C 183)).alloc (.cells (Array.replicate 256 (.bool false)) 183))=.ok () ((w.alloc (.cells C 183)).alloc (.cells C 183)):=by
  have:=run_storeCells_new (P:=Tryz.prog) (w.alloc (.cells C 183)) 183 (Array.replicate 256 (.bool false)) C (by rw[←hC,Lib.setCells_size];exact size256) (by rw[←hC,Lib.setCells_size,Array.size_replicate]) (by rw[←hC];exact Lib.setCells_one _)
  simpa using this
 rw[show Array.replicate 256 (Value.bool false)=Tryz.zeroCells183 from by kernel_rfl]at SC
 have HCE:Hid (∀(i:Nat)(h:i<s.size),((w.alloc (.cells C 183)).alloc (.cells C 183)).cell? ⟨w.heap.size+1,(s[i]'h).toNat,none⟩=some (.bool (([61,58]:List UInt8).contains (s[i]'h)))):=fun i h=>by
  rw[World.cell?_alloc_at _ _ _ _ (by simp),←hC,Lib.setCells_at]
 have HBE:Hid (Below w.heap.size w ((w.alloc (.cells C 183)).alloc (.cells C 183))):=((Below.refl _ w).alloc (Nat.le_refl _) _).alloc (by simp) _
 have HMK:Hid (∀(i:Nat)(h:i<s.size),mk s i↔([61,58]:List UInt8).contains (s[i]'h)=true):=mk_iff s
 have hcz:C.size=256:=by rw[←hC];exact Lib.setCells_size _
 rw[hC]at MS
 clear hC
 go_enter Tryz.func161,Tryz.ntmps161
 go_wp2_with fail
 refine SH.mono ?_
 rintro e w1⟨rfl,hw1⟩
 rw[hw1]
 clear hw1
 go_wp2_with fail
 refine MS.mono ?_
 rintro e w2⟨rfl,hw2⟩
 rw[hw2]
 clear hw2
 go_wp2
 clear MS SC SH
 generalize hW:(w.alloc (.cells C 183)).alloc (.cells C 183)=W at*
 go_loopw[8](fun i wz=>∃p:Nat,p≤s.size∧i=.int .i64 p∧Hid (∀j,j<p→j<s.size→¬mk s j)∧wz=W)(fun i _=>s.size-(RowKit.intOf i).toNat)
 case atStart=>exact⟨0,Nat.zero_le _,rfl,fun j h=>absurd h (Nat.not_lt_zero _),rfl⟩
 case round=>
  obtain⟨p,hp,rfl,HN,hz⟩:=hrel
  subst hz
  by_cases hlt:p<s.size
  ·have hlt':(p:Int)<(s.size:Int):=by omega
   have hm:=HMK.out p hlt
   have hcell:=HCE.out p hlt
   obtain⟨x,hx⟩:∃x:UInt8,s[p]'hlt=x:=⟨_,rfl⟩
   rw[hx]at hm hcell
   have hr0:((s[p]'hlt).toNat:Int)=(x.toNat:Int):=by rw[hx]
   clear hx
   cases hin:([61,58]:List UInt8).contains x with
   |false=>
    rw[hin]at hm hcell
    have HN2:Hid (∀j,j<p+1→j<s.size→¬mk s j):=fun j h1 h2=>by
     rcases Nat.lt_or_ge j p with h3|h3
     ·exact HN.out j h3 h2
     ·obtain rfl:j=p:=by omega
      exact fun h=>by have:=hm.1 h;cases this
    have CO:=Tryz.asciiSet_contains (w.heap.size+1) x false wr hcell
    clear hm hcell hin HN
    go_wp2_with fail
    refine CO.mono ?_
    rintro e w2⟨rfl,hw2⟩
    subst hw2
    go_wp2
    exact⟨⟨p+1,by omega,by go_num,HN2,by trivial⟩,by simp[Go.RowKit.intOf];omega⟩
   |true=>
    rw[hin]at hm hcell
    have HM:Hid (markI s=p):=mark_hit s p hlt HN.out (hm.2 rfl)
    have CO:=Tryz.asciiSet_contains (w.heap.size+1) x true wr hcell
    clear hm hcell hin HN
    go_wp2_with fail
    refine CO.mono ?_
    rintro e w2⟨rfl,hw2⟩
    subst hw2
    go_wp2
    go_ret
    exact⟨by rw[HM.out];rfl,HBE.out⟩
  ·have hge:¬(p:Int)<(s.size:Int):=by omega
   have HM:Hid (markI s=-1):=mark_none s (fun j hj=>HN.out j (by omega) hj)
   go_wp2
   go_ret
   exact⟨by rw[HM.out];rfl,HBE.out⟩
theorem any_any(s:ByteArray)(w:World)(hs:s.size≤140737488355328):
  Calls Tryz.prog 161 #[.string s,.string ⟨#[61,58]⟩] w fun e w'=>e=.returned (.int .i64 (markI s))∧Below w.heap.size w w':=by
 rcases Nat.lt_or_ge 8 s.size with h|h
 ·exact any_long s w h hs
 ·exact any_short s w h
end Go.Proofs.YtbbeciofgnkggaaGreatDoor.nam
namespace Go.Proofs.YtbbeciofgnkggaaGreatDoor.nam
open Go.RowKit lin
def bothL(p v:List UInt8):Int×List UInt8×Int:=
 match lookL ([112,114],looseL p)with
 |none=>(0,[],50)
 |some r=>match lookL (r.2.1,looseL v)with
  |none=>(0,[],51)
  |some q=>(numL r.2.1,q.2.1,0)
def resolveV(s:ByteArray):Int×List UInt8×Int:=
 if markI s<0 then aloneL (looseL s.data.toList)else bothL (s.data.toList.take (markI s).toNat) (s.data.toList.drop ((markI s).toNat+1))
theorem both0{p v:List UInt8}(h:lookL ([112,114],looseL p)=none):bothL p v=(0,[],50):=by unfold bothL;rw[h]
theorem both1{p v:List UInt8}{r:R3}(h:lookL ([112,114],looseL p)=some r)(h2:lookL (r.2.1,looseL v)=none):bothL p v=(0,[],51):=by unfold bothL;simp only[h,h2]
theorem both2{p v:List UInt8}{r q:R3}(h:lookL ([112,114],looseL p)=some r)(h2:lookL (r.2.1,looseL v)=some q):bothL p v=(numL r.2.1,q.2.1,0):=by unfold bothL;simp only[h,h2]
theorem ext_take(s:ByteArray)(p:Nat):s.extract 0 p=BA (s.data.toList.take p):=by rw[ext_list];simp
theorem ext_drop(s:ByteArray)(p:Nat):s.extract p s.size=BA (s.data.toList.drop p):=by
 rw[ext_list,List.take_of_length_le]
 simp
theorem drewBelow{w w':World}{n:Nat}(h:Below n w w'):Below n w w'.drew:=⟨h.os,h.tape,h.output,h.size,h.block⟩
theorem fromDrew{w w':World}{n:Nat}(h:Below n w.drew w'):Below n w w':=⟨h.os,h.tape,h.output,h.size,h.block⟩
theorem blk2{w:World}{g:Nat}{x y:Value}{t:TypeId}(h:w.heap[g]?=some (.cells #[x,y] t (0,0))):w.cell? ⟨g,0,none⟩=some x∧w.cell? ⟨g,1,none⟩=some y∧w.frozen? ⟨g,0,none⟩=false∧w.frozen? ⟨g,1,none⟩=false:=by
 simp[World.cell?,World.frozen?,h]
theorem set_block{w:World}{g:Nat}{x y:Value}{t:TypeId}(h:w.heap[g]?=some (.cells #[x,y] t (0,0)))(a b:Value):
  ((w.setCell ⟨g,0,none⟩ a).setCell ⟨g,1,none⟩ b).heap[g]?=some (.cells #[a,b] t (0,0)):=by
 have h1:=heap_setCell_same w g 0 _ _ a h
 have h2:=heap_setCell_same _ g 1 _ _ b h1
 exact h2
theorem resolve_any(s:ByteArray)(w:World)(hs:s.size≤140737488355327):
  Calls Tryz.prog 151 #[.string s] w fun e w'=>e=.returned (.tuple #[.int .i64 (resolveV s).1,.string (BA (resolveV s).2.1),.int .i64 (resolveV s).2.2])∧Below w.heap.size w w':=by
 have FA:=file_any w
 go_enter Tryz.func151,Tryz.ntmps151
 go_wp2_with fail
 refine FA.mono ?_
 rintro e w1⟨b,rfl,hb,hm1,b1⟩
 clear FA
 have AN:=any_any s w1 (by omega)
 have hs1:=b1.size
 go_wp2_with fail
 refine AN.mono ?_
 rintro e w2⟨rfl,hb2⟩
 clear AN
 have hm2:=hm1.below hb2
 have b2:=b1.trans (hb2.mono hs1)
 have hs2:=b2.size
 clear hm1 hb2 b1
 have hll:=looseL_len s.data.toList
 rw[size_list]at hll
 rcases mark_cases s with⟨hmk,_⟩|⟨p,hmk,hp,_,_⟩
 ·have HE:Hid (resolveV s=aloneL (looseL s.data.toList)):=by unfold Hid resolveV;rw[if_pos (by rw[hmk];decide)]
  have LO:=loose_any s w2 hs
  rw[hmk]
  clear hmk
  generalize looseL s.data.toList=l at*
  go_wp2_with fail
  refine LO.mono ?_
  rintro e w3⟨rfl,hb3⟩
  have AL:=alone_any b l w3 (hm2.below hb3) (by omega)
  clear LO
  go_wp2_with fail
  refine AL.mono ?_
  rintro e w4⟨rfl,hb4⟩
  clear AL
  have b4:=(b2.trans (hb3.mono hs2)).trans (hb4.mono (b2.trans (hb3.mono hs2)).size)
  go_wp2
  go_ret3
  exact⟨by rw[HE.out];rfl,b4⟩
 ·have HE:Hid (resolveV s=bothL (s.data.toList.take p) (s.data.toList.drop (p+1))):=by unfold Hid resolveV;rw[hmk,if_neg (by omega)];rfl
  have x1:=ext_take s p
  have x2:=ext_drop s (p+1)
  have hl1:(s.data.toList.take p).length≤s.size:=by rw[List.length_take,size_list];omega
  have hl2:(s.data.toList.drop (p+1)).length≤s.size:=by rw[List.length_drop,size_list];omega
  generalize s.data.toList.take p=P at*
  generalize s.data.toList.drop (p+1)=V at*
  have LO:=loose_any (BA P) w2 (by rw[BA_size];omega)
  rw[BA_data]at LO
  have hl3:=looseL_len P
  have hl4:=looseL_len V
  have hp0:¬(p:Int)<0:=by omega
  have hp1:(p:Int)≤(s.size:Int):=by omega
  have hp2:(p:Int)+1≤(s.size:Int):=by omega
  rw[hmk]
  clear hmk
  go_wp2_with fail
  refine LO.mono ?_
  rintro e w3⟨rfl,hb3⟩
  clear LO
  have hm3:=hm2.below hb3
  have b3:=b2.trans (hb3.mono hs2)
  have hs3:=b3.size
  clear hm2 hb3 b2
  cases hlk:lookL ([112,114],looseL P)with
  |none=>
   have LK:(Instr.lookup 168 (.map (some b)) (.agg #[.string ⟨#[112,114]⟩,.string (BA (looseL P))]) true).run Tryz.prog w3=.ok (.tuple #[.agg #[.string ⟨#[]⟩,.string ⟨#[]⟩],.bool false]) w3:=look_none hm3 (k:=[112,114]) (by decide) (by omega) hlk
   have HE2:Hid (resolveV s=(0,[],50)):=HE.out.trans (both0 hlk)
   clear hlk HE
   go_wp2
   go_ret3
   exact⟨by rw[HE2.out];rfl,b3.alloc hs3 _⟩
  |some r=>
   have LK:(Instr.lookup 168 (.map (some b)) (.agg #[.string ⟨#[112,114]⟩,.string (BA (looseL P))]) true).run Tryz.prog w3=.ok (.tuple #[.agg #[.string (BA r.2.1),.string (BA r.2.2)],.bool true]) w3:=look_some hm3 (k:=[112,114]) (by decide) (by omega) hlk
   have hrs:=rows_small r (look_mem hlk).1
   have HE1:Hid (lookL (r.2.1,looseL V)=none→resolveV s=(0,[],51)):=fun h=>HE.out.trans (both1 hlk h)
   have HE2:Hid (∀q,lookL (r.2.1,looseL V)=some q→resolveV s=(numL r.2.1,q.2.1,0)):=fun q h=>HE.out.trans (both2 hlk h)
   clear hlk HE
   obtain⟨r0,r1,r2⟩:=r
   simp only at LK hrs HE1 HE2
   obtain⟨xa,xb,okk2,LQ,HE3⟩:∃(xa xb:List UInt8)(okk2:Bool),Hid (∀w',Nm w' b→(Instr.lookup 168 (.map (some b)) (.agg #[.string (BA r1),.string (BA (looseL V))]) true).run Tryz.prog w'=.ok (.tuple #[.agg #[.string (BA xa),.string (BA xb)],.bool okk2]) w')∧Hid (resolveV s=if okk2 then(numL r1,xa,0)else(0,[],51)):=by
    cases hlq:lookL (r1,looseL V)with
    |none=>exact⟨[],[],false,fun w' h=>look_none h (by omega) (by omega) hlq,HE1.out hlq⟩
    |some q=>exact⟨q.2.1,q.2.2,true,fun w' h=>look_some h (by omega) (by omega) hlq,HE2.out q hlq⟩
   clear HE1 HE2
   have LV:Hid (∀W,Calls Tryz.prog 163 #[.string (BA V)] W fun e w'=>e=.returned (.string (BA (looseL V)))∧Below W.heap.size W w'):=fun W=>loose_any (BA V) W (by rw[BA_size];omega)
   have NU:Hid (∀W,Calls Tryz.prog 164 #[.string (BA r1)] W fun e w'=>e=.returned (.int .i64 (numL r1))∧w'=W):=fun W=>number_any r1 W
   have hp3:(0:Int)≤(p:Int)+1:=by omega
   have wp1:IntKind.i64.wrap ((p:Int)+1)=(p:Int)+1:=by rw[IntKind.wrap_i64];omega
   go_wp2
   have hm4:=hm3.below ((Below.refl _ w3).alloc (Nat.le_refl _) (.cells #[.string (BA r1),.string (BA r2)] 172))
   have b4:=b3.alloc hs3 (.cells #[.string (BA r1),.string (BA r2)] 172)
   have nb4:(w3.alloc (.cells #[.string (BA r1),.string (BA r2)] 172)).heap[w3.heap.size]?=some (.cells #[.string (BA r1),.string (BA r2)] 172 (0,0)):=World.alloc_heap_new _ _
   have hz4:w3.heap.size<(w3.alloc (.cells #[.string (BA r1),.string (BA r2)] 172)).heap.size:=by rw[World.size_alloc];omega
   obtain⟨W4,hW4⟩:∃W4,w3.alloc (.cells #[.string (BA r1),.string (BA r2)] 172)=W4:=⟨_,rfl⟩
   rw[hW4]at hm4 b4 nb4 hz4⊢
   clear hW4 hm3 b3 LK
   have c0:=(blk2 nb4).1
   have hs4:=b4.size
   refine wp_region_noPanic ?_
   refine wp_region_held_drew (S:=fun w'=>w'.cell? ⟨w3.heap.size,0,none⟩=some (.string (BA r1))∧Nm w' b) (by kernel_rfl) ?_ (fun hHeld=>?_)
   ·exact⟨c0,hm4⟩
   refine lin.tH 0 (v:=?_) ?_
   try simp only[Act.put,lin.sm]
   refine lin.tH 1 (v:=?_) ?_
   try simp only[Act.put,lin.sm]
   refine lin.tH 2 (v:=?_) ?_
   try simp only[Act.put,lin.sm]
   refine lin.tH 3 (v:=?_) ?_
   try simp only[Act.put,lin.sm]
   refine lin.tH 4 (v:=?_) ?_
   try simp only[Act.put,lin.sm]
   refine lin.tH 5 (v:=?_) ?_
   try simp only[Act.put,lin.sm]
   refine lin.tH 6 (v:=?_) ?_
   try simp only[Act.put,lin.sm]
   refine wpAnyH_ready (rs:=[7,13]) (by kernel_rfl) (by simp) ?_
   refine AllReadyH.cons rfl (fun K hK=>?_) (AllReadyH.cons rfl (fun K hK=>?_) AllReadyH.nil)
   ·go_simp
    refine(LV.out _).mono ?_
    rintro e w5⟨rfl,hb5⟩
    have hb5:=fromDrew hb5
    have c5:w5.cell? ⟨w3.heap.size,0,none⟩=some (.string (BA r1)):=(hb5.cell (p:=⟨w3.heap.size,0,none⟩) (by show w3.heap.size<W4.heap.size;omega)).trans c0
    have hm5:Nm w5 b:=hm4.below hb5
    have b5:Below w.heap.size w w5:=b4.trans (hb5.mono hs4)
    have hs5:=b5.size
    have hs45:=hb5.size
    have hlt5:w3.heap.size<w5.heap.size:=by omega
    have hne5:¬w3.heap.size=w5.heap.size:=by omega
    clear hHeld hb5 hm4 nb4 c0
    refine hK.out _ _ ?_ (fun hHeld=>?_)
    ·exact⟨c5,hm5⟩
    clear hK K
    try simp only[Act.put,lin.sm]
    refine lin.tH 8 (v:=?_) ?_
    try simp only[Act.put,lin.sm]
    refine lin.tkH 9 (v:=?_) rfl (by kernel_rfl) (fun _ _ _ h=>h) (by rfl) ?_ (by assumption) ?_
    rotate_left
    ·(intro w' hSw;have LQ1:=LQ.out w' hSw.2;go_simp;try with_reducible rfl)
    try simp only[Act.put,lin.sm]
    refine lin.tH 10 (v:=?_) ?_
    try simp only[Act.put,lin.sm]
    refine lin.tH 11 (v:=?_) ?_
    try simp only[Act.put,lin.sm]
    refine lin.tH 12 (v:=?_) ?_
    try simp only[Act.put,lin.sm]
    refine wpAnyH_ready (rs:=[13]) (by kernel_rfl) (by simp) ?_
    refine AllReadyH.cons rfl (fun K hK=>?_) AllReadyH.nil
    go_simp
    refine hK.out _ _ ?_ (fun hHeld=>?_)
    ·exact⟨(World.cell?_alloc_past _ _ _ (by omega)).trans c5,hm5.below ((Below.refl _ w5).alloc (Nat.le_refl _) _)⟩
    clear hK K
    try simp only[Act.put,lin.sm]
    refine wpAnyH_ready (rs:=[14]) (by kernel_rfl) (by simp) ?_
    refine AllReadyH.cons rfl (fun K hK=>?_) AllReadyH.nil
    go_simp
    refine hK.out _ _ ?_ (fun hHeld=>?_)
    ·exact⟨(World.cell?_alloc_past _ _ _ (by omega)).trans c5,hm5.below ((Below.refl _ w5).alloc (Nat.le_refl _) _)⟩
    clear hK K
    try simp only[Act.put,lin.sm]
    refine lin.tH 15 (v:=?_) ?_
    try simp only[Act.put,lin.sm]
    refine wpAnyH_done (by kernel_rfl) ?_ _
    refine NoPanic.normal ?_
    clear hHeld
    cases okk2 with
    |false=>
     go_wp2
     go_ret3
     exact⟨by rw[(HE3.out:resolveV s=_)];rfl,have q:=b5.alloc hs5 _;⟨q.os,q.tape,q.output,q.size,q.block⟩⟩
    |true=>
     go_wp2
     go_quiet(exact(NU.out _).mono fun _ _ h=>⟨h.1,_,h.2⟩)
     go_wp2
     go_ret3
     exact⟨by rw[(HE3.out:resolveV s=_)];rfl,have q:=b5.alloc hs5 _;⟨q.os,q.tape,q.output,q.size,q.block⟩⟩
   ·go_simp
    have nbA:(W4.drew.alloc (.cells #[.string ⟨#[]⟩,.string ⟨#[]⟩] 172)).heap[W4.heap.size]?=some (.cells #[.string ⟨#[]⟩,.string ⟨#[]⟩] 172 (0,0)):=World.alloc_heap_new _ _
    have cA:(W4.alloc (.cells #[.string ⟨#[]⟩,.string ⟨#[]⟩] 172)).drew.cell? ⟨w3.heap.size,0,none⟩=some (.string (BA r1)):=(World.cell?_alloc_past _ _ _ (by omega)).trans c0
    have bA:Below W4.heap.size W4 (W4.alloc (.cells #[.string ⟨#[]⟩,.string ⟨#[]⟩] 172)).drew:=drewBelow ((Below.refl _ W4).alloc (Nat.le_refl _) _)
    have hmA:=hm4.below bA
    refine hK.out _ _ ?_ (fun hHeld2=>?_)
    ·exact⟨cA,hmA⟩
    clear hK K hHeld
    have hHeld:=hHeld2
    clear hHeld2
    try simp only[Act.put,lin.sm]
    refine wpAnyH_ready (rs:=[7]) (by kernel_rfl) (by simp) ?_
    refine AllReadyH.cons rfl (fun K hK=>?_) AllReadyH.nil
    go_simp
    refine(LV.out _).mono ?_
    rintro e w5⟨rfl,hb5⟩
    have hb5:=fromDrew hb5
    have szA:(W4.alloc (.cells #[.string ⟨#[]⟩,.string ⟨#[]⟩] 172)).drew.heap.size=W4.heap.size+1:=World.size_alloc _ _
    have hb6:Below (W4.heap.size+1) (W4.alloc (.cells #[.string ⟨#[]⟩,.string ⟨#[]⟩] 172)) w5:=by rw[←szA];exact hb5
    have c5:w5.cell? ⟨w3.heap.size,0,none⟩=some (.string (BA r1)):=(hb6.cell (p:=⟨w3.heap.size,0,none⟩) (by show w3.heap.size<_;omega)).trans cA
    have hm5:Nm w5 b:=(hm4.below (bA)).below (w':=w5) (by rw[szA];exact⟨hb6.os,hb6.tape,hb6.output,hb6.size,hb6.block⟩)
    have nb5:w5.heap[W4.heap.size]?=some (.cells #[.string ⟨#[]⟩,.string ⟨#[]⟩] 172 (0,0)):=(hb6.block _ (by omega)).trans nbA
    have b5:Below w.heap.size w w5:=(b4.trans (bA.mono hs4)).trans (⟨hb6.os,hb6.tape,hb6.output,hb6.size,fun k hk=>hb6.block k (by omega)⟩:Below w.heap.size (W4.alloc (.cells #[.string ⟨#[]⟩,.string ⟨#[]⟩] 172)).drew w5)
    obtain⟨g0,g1,g2,g3⟩:=blk2 nb5
    have hs5:=b5.size
    have hs6:=hb6.size
    have nb6:=set_block nb5 (.string (BA xa)) (.string (BA xb))
    have T6:Turns (fun k=>k=W4.heap.size) w5 ((w5.setCell ⟨W4.heap.size,0,none⟩ (.string (BA xa))).setCell ⟨W4.heap.size,1,none⟩ (.string (BA xb))):=⟨rfl,rfl,rfl,by simp,fun k hk hd=>by rw[heap_setCell_other _ _ _ _ hd,heap_setCell_other _ _ _ _ hd]⟩
    have c6:=turns_cell T6 c5 (by show¬w3.heap.size=_;omega)
    have hm6:Nm _ b:=hm5.turns T6 (fun h=>by have:=hm4.lt;omega)
    have b6:=b5.trans (T6.below hs5 (fun k h=>by omega))
    obtain⟨k0,k1,k2,k3⟩:=blk2 nb6
    have hlt4:w3.heap.size<W4.heap.size:=by omega
    have hne4:¬w3.heap.size=W4.heap.size:=by omega
    have hne4':¬W4.heap.size=w3.heap.size:=by omega
    clear hHeld hb5 hb6 nb4 c0 bA hmA cA nbA
    refine hK.out _ _ ?_ (fun hHeld=>?_)
    ·exact⟨c5,hm5⟩
    clear hK K
    try simp only[Act.put,lin.sm]
    refine lin.tH 8 (v:=?_) ?_
    try simp only[Act.put,lin.sm]
    refine lin.tkH 9 (v:=?_) rfl (by kernel_rfl) (fun _ _ _ h=>h) (by rfl) ?_ (by assumption) ?_
    rotate_left
    ·(intro w' hSw;have LQ1:=LQ.out w' hSw.2;go_simp;try with_reducible rfl)
    try simp only[Act.put,lin.sm]
    refine lin.tH 10 (v:=?_) ?_
    try simp only[Act.put,lin.sm]
    refine lin.tH 11 (v:=?_) ?_
    try simp only[Act.put,lin.sm]
    refine lin.tH 12 (v:=?_) ?_
    try simp only[Act.put,lin.sm]
    refine wpAnyH_ready (rs:=[14]) (by kernel_rfl) (by simp) ?_
    refine AllReadyH.cons rfl (fun K hK=>?_) AllReadyH.nil
    go_simp
    refine hK.out _ _ ?_ (fun hHeld=>?_)
    ·exact⟨c6,hm6⟩
    clear hK K
    try simp only[Act.put,lin.sm]
    refine lin.tH 15 (v:=?_) ?_
    try simp only[Act.put,lin.sm]
    refine wpAnyH_done (by kernel_rfl) ?_ _
    refine NoPanic.normal ?_
    clear hHeld
    cases okk2 with
    |false=>
     go_wp2
     go_ret3
     exact⟨by rw[(HE3.out:resolveV s=_)];rfl,have q:=b6;⟨q.os,q.tape,q.output,q.size,q.block⟩⟩
    |true=>
     go_wp2
     go_quiet(exact(NU.out _).mono fun _ _ h=>⟨h.1,_,h.2⟩)
     go_wp2
     go_ret3
     exact⟨by rw[(HE3.out:resolveV s=_)];rfl,have q:=b6;⟨q.os,q.tape,q.output,q.size,q.block⟩⟩
end Go.Proofs.YtbbeciofgnkggaaGreatDoor.nam
namespace Go.Proofs.YtbbeciofgnkggaaGreatDoor.nam
open Go.RowKit lin
def longL(n:Int)(v:List UInt8):List UInt8×Bool:=
 match lookL (kindL n,looseL v)with
 |none=>([],false)
 |some r=>if r.2.1=v then(r.2.2,true)else([],false)
end Go.Proofs.YtbbeciofgnkggaaGreatDoor.nam
namespace Go.Proofs.YtbbeciofgnkggaaGreatDoor.nam
open Go.RowKit lin
def shortL(o:Option R3):List UInt8:=match o with|some r=>r.2.1|none=>[]
theorem rows_short:∀r∈rowsL,r.2.1≠[]:=by decide+kernel
theorem rows_pr:∀r∈rowsL,r.1=[112,114]→r.2.1=[103,99]∨r.2.1=[115,99]:=by decide+kernel
theorem hitT{k l:List UInt8}{r:R3}(h:r.1=k)(h2:looseL r.2.1=l∨looseL r.2.2=l):hit (k,l) r=true:=by
 unfold hit
 simp only[Bool.and_eq_true,Bool.or_eq_true,beq_iff_eq]
 exact⟨h,h2⟩
theorem hitF1{k l:List UInt8}{r:R3}(h:¬r.1=k):hit (k,l) r=false:=by
 unfold hit
 rw[beq_eq_false_iff_ne.2 h];rfl
theorem hitF2{k l:List UInt8}{r:R3}(h:¬looseL r.2.1=l)(h2:¬looseL r.2.2=l):hit (k,l) r=false:=by
 unfold hit
 rw[beq_eq_false_iff_ne.2 h,beq_eq_false_iff_ne.2 h2,Bool.or_self,Bool.and_false]
theorem drop_step{k:Nat}{r:R3}(h:rowsL[k]?=some r):rowsL.drop k=r::rowsL.drop (k+1):=by
 have hk:=(List.getElem?_eq_some_iff.1 h).1
 rw[List.drop_eq_getElem_cons hk,(List.getElem?_eq_some_iff.1 h).2]
theorem value_any(k s:List UInt8)(w:World)(hs:s.length≤140737488355327):
  Calls Tryz.prog 83 #[.string (BA k),.string (BA s)] w fun e w'=>e=.returned (.string (BA (shortL (lookL (k,looseL s)))))∧Below w.heap.size w w':=by
 have AA:=aliases_any w
 have RR:=rrows_any aliasB w (Nat.le_trans alias_n (by decide))
 have LS:Hid (∀W,Calls Tryz.prog 102 #[.string (BA s)] W fun e w'=>e=.returned (.string (BA (looseL s)))∧Below W.heap.size W w'):=fun W=>rloose_any (BA s) W (by rw[BA_size];omega)
 have LR:Hid (∀W(f:List UInt8),f.length≤30→Calls Tryz.prog 102 #[.string (BA f)] W fun e w'=>e=.returned (.string (BA (looseL f)))∧Below W.heap.size W w'):=fun W f hf=>rloose_any (BA f) W (by rw[BA_size];omega)
 have H0:Hid (lookL (k,looseL s)=(rowsL.drop 0).find? (hit (k,looseL s))):=rfl
 generalize lookL (k,looseL s)=lk at*
 generalize looseL s=ls at*
 go_enter Tryz.func83,Tryz.ntmps83
 go_wp2_with fail
 refine AA.mono ?_
 rintro e wa⟨rfl,hwa⟩
 rw[hwa]
 clear AA hwa
 go_wp2_with fail
 refine RR.mono ?_
 rintro e w1⟨v,rfl,hrows,b1⟩
 clear RR
 obtain⟨g,cap,vs,hfile⟩:=file_at hrows
 clear hrows
 obtain rfl:=hfile.val
 have hs1:=b1.size
 have hvl:vs.length≤51:=by rw[hfile.len,rows_n];exact Nat.le_refl _
 have HF:Hid (FileAt w1 w.heap.size (.slice (some ⟨g,0,none⟩) vs.length cap) g cap vs):=hfile
 have HL:Hid (vs.length=rowsL.length):=hfile.len
 clear hfile
 go_wp2
 go_loopw[10](fun i wr=>∃j:Nat,j≤vs.length∧i=.int .i64 j∧Hid (lk=(rowsL.drop j).find? (hit (k,ls)))∧Below w1.heap.size w1 wr)(fun i _=>vs.length-(RowKit.intOf i).toNat)
 case atStart=>exact⟨0,Nat.zero_le _,rfl,H0,Below.refl _ _⟩
 case round=>
  obtain⟨j,hj,rfl,HR,hbel⟩:=hrel
  by_cases hlt:j<vs.length
  ·have hlt':(j:Int)<(vs.length:Int):=by omega
   have hjr:j<rowsL.length:=by rw[←HL.out];exact hlt
   obtain⟨r,hr⟩:∃r,rowsL[j]?=some r:=⟨_,List.getElem?_eq_getElem hjr⟩
   have ce:=HF.out.cell j hlt
   rw[Nat.zero_add]at ce
   obtain⟨fg,fo,fc,hx,hfl,hflt,f0,f1,f2⟩:=HF.out.row j vs[j] r (List.getElem?_eq_getElem hlt) hr
   rw[hx]at ce
   have ce2:wr.cell? ⟨g,j,none⟩=some (.slice (some ⟨fg,fo,none⟩) 3 fc):=(hbel.cell (p:=⟨g,j,none⟩) HF.out.lt).trans ce
   have cf:∀W,Below w1.heap.size w1 W→∀o v,w1.cell? ⟨fg,o,none⟩=some v→W.cell? ⟨fg,o,none⟩=some v:=fun W hb o v h=>(hb.cell (p:=⟨fg,o,none⟩) hflt).trans h
   have d0:=cf wr hbel _ _ f0
   have d1:=cf wr hbel _ _ f1
   have hsm:=rows_small r (List.mem_of_getElem? hr)
   have hdr:=drop_step hr
   have HB:Hid (lk=if hit (k,ls) r then some r else(rowsL.drop (j+1)).find? (hit (k,ls))):=by
    rw[Hid,HR.out,hdr,List.find?_cons]
    cases hit (k,ls) r<;>rfl
   have HCF:Hid (∀W,Below w1.heap.size w1 W→W.cell? ⟨fg,fo+1,none⟩=some (.string (BA r.2.1))∧W.cell? ⟨fg,fo+1+1,none⟩=some (.string (BA r.2.2))):=fun W hb=>⟨cf W hb _ _ f1,cf W hb _ _ f2⟩
   have hbs:=hbel.size
   clear hdr cf f0 f1 f2 ce hx hr HR
   by_cases hk:r.1=k
   ·have t1:=beqT2 hk
    have HT:Hid (looseL r.2.1=ls∨looseL r.2.2=ls→lk=some r):=fun h=>by rw[HB.out,hitT hk h];rfl
    have HFF:Hid (¬looseL r.2.1=ls→¬looseL r.2.2=ls→lk=(rowsL.drop (j+1)).find? (hit (k,ls))):=fun h h2=>by rw[HB.out,hitF2 h h2];rfl
    clear hk HB
    obtain⟨r0,r1,r2⟩:=r
    simp only at d0 d1 hsm HCF HT HFF t1
    go_wp2_with fail
    refine(LR.out _ r1 hsm.2.1).mono ?_
    rintro e w2⟨rfl,hb2⟩
    have b2:=hbel.trans (hb2.mono hbs)
    have hs2:=b2.size
    clear hb2
    go_wp2_with fail
    refine(LS.out _).mono ?_
    rintro e w3⟨rfl,hb3⟩
    have b3:=b2.trans (hb3.mono hs2)
    have hs3:=b3.size
    clear hb3
    obtain⟨e1,e2⟩:=HCF.out w3 b3
    by_cases hq:looseL r1=ls
    ·have t2:=beqT2 hq
     have HE:Hid (lk=some (r0,r1,r2)):=HT.out (.inl hq)
     have HBB:Hid (Below w.heap.size w w3):=b1.trans (b3.mono hs1)
     clear HT HFF hq
     go_wp2
     go_ret
     exact⟨by rw[HE.out];rfl,HBB.out⟩
    ·have t2:=beqF2 hq
     go_wp2_with fail
     refine(LR.out _ r2 hsm.2.2).mono ?_
     rintro e w4⟨rfl,hb4⟩
     have b4:=b3.trans (hb4.mono hs3)
     have hs4:=b4.size
     clear hb4
     go_wp2_with fail
     refine(LS.out _).mono ?_
     rintro e w5⟨rfl,hb5⟩
     have b5:=b4.trans (hb5.mono hs4)
     obtain⟨k1,k2⟩:=HCF.out w5 b5
     clear hb5
     by_cases hq2:looseL r2=ls
     ·have t3:=beqT2 hq2
      have HE:Hid (lk=some (r0,r1,r2)):=HT.out (.inr hq2)
      have HBB:Hid (Below w.heap.size w w5):=b1.trans (b5.mono hs1)
      clear HT HFF hq hq2
      go_wp2
      go_ret
      exact⟨by rw[HE.out];rfl,HBB.out⟩
     ·have t3:=beqF2 hq2
      have HE:Hid (lk=(rowsL.drop (j+1)).find? (hit (k,ls))):=HFF.out hq hq2
      clear HT HFF hq hq2
      go_wp2
      exact⟨⟨j+1,by omega,by go_num,HE,b5⟩,by simp[Go.RowKit.intOf];omega⟩
   ·have t1:=beqF2 hk
    have HE:Hid (lk=(rowsL.drop (j+1)).find? (hit (k,ls))):=by rw[Hid,HB.out,hitF1 hk];rfl
    clear hk HB
    obtain⟨r0,r1,r2⟩:=r
    simp only at d0 d1 hsm HCF t1
    go_wp2
    exact⟨⟨j+1,by omega,by go_num,HE,hbel⟩,by simp[Go.RowKit.intOf];omega⟩
  ·have hge:¬(j:Int)<(vs.length:Int):=by omega
   have HE:Hid (lk=none):=by rw[Hid,HR.out,List.drop_eq_nil_of_le (by rw[←HL.out];omega)];rfl
   have HBB:Hid (Below w.heap.size w wr):=b1.trans (hbel.mono hs1)
   clear HR
   go_wp2
   go_ret
   exact⟨by rw[HE.out];rfl,HBB.out⟩
end Go.Proofs.YtbbeciofgnkggaaGreatDoor.nam
