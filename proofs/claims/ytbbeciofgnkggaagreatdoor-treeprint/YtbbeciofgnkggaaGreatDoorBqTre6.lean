import Derived.Test.YtbbeciofgnkggaaGreatDoorBqTre3
import Derived.Test.YtbbeciofgnkggaaGreatDoorBqNod1
import Derived.Shelf.Strconv.Itoa3
import Derived.Shelf.Slices.Turned
import Derived.Shelf.Strings.Builder1
import Derived.Shelf.Strings.Builder2
import Derived.Shelf.Strings.OnBuilder
import Derived.Shelf.Strings.Trim
import Derived.Shelf.Small.Utf8
import Derived.Shelf.Small.Strs
import Derived.Shelf.Strings.BuilderF
import Derived.Shelf.Strings.BuilderK
import Derived.Shelf.Strings.BuilderRune
import Derived.Shelf.Strconv.Itoa0
import Derived.Shelf.Strconv.Itoa1
import Derived.Shelf.LaysM
import Derived.Shelf.Strconv.Itoa2
import Derived.Shelf.Strconv.Itoa4
import Derived.Shelf.Strconv.Clone
import Derived.Shelf.Strings.Search1
import Derived.Shelf.Strings.Search2
import Derived.Shelf.Strings.Search3
import Derived.Shelf.Strings.Shaped
import Derived.Shelf.Strings.Prefix
import Derived.Shelf.Unicode.Latin
import Derived.Shelf.Unicode.Decode
import Derived.Shelf.Strings.Runes
import Derived.Shelf.Strings.IndexAny
import Derived.Shelf.Strings.AsciiSet
import Derived.Shelf.Strings.IndexAnyAll
import Derived.Shelf.Unicode.DecodeSlow
import Derived.Shelf.Unicode.DecodeAny
import Derived.Shelf.Unicode.DecodeLast
import Derived.Shelf.Unicode.CaseLookup
import Derived.Shelf.Unicode.CaseConvert
import Derived.Shelf.Unicode.CaseTo
import Derived.Shelf.Unicode.CaseLaid
import Derived.Shelf.Strings.MapAny
import Derived.Shelf.Strings.CaseAny
import Derived.Test.YtbbeciofgnkggaaGreatDoorProg
import Derived.Test.YtbbeciofgnkggaaGreatDoorBqTre2
import Derived.Lib.ItoaMem
set_option linter.unusedSimpArgs false
set_option linter.unusedVariables false
set_option maxRecDepth 10000
set_option maxHeartbeats 4000000
namespace Go.Proofs.YtbbeciofgnkggaaGreatDoor.tre
open Go.RowKit nod
open rng(R RV ret_int ret_bool below_drewN info_parts own_below')
open tok(PEnv TX printL)
theorem alternatives_no{w0 W:World}{base g:Nat}{s:Wr}(c:Cx w0 W base g s)(m a b:Int)(ng:Bool)(n:ByteArray)(sa:Option Addr)(sl sc:Nat)(ao:Option Addr)(nk cap:Nat)(st:List R)(ks:List Nd)(hsl:st.length=sl)(hnk:ks.length=nk)(ho:othersZ (.mk 7 m a b ng n st ks)=false):Met 26 #[.pointer (some ⟨g,0,none⟩),.agg (n8 7 m a b ng n sa sl sc ao nk cap)] w0 W base g (none):=by
 have HS:=Sn.st c (n8 7 m a b ng n sa sl sc ao nk cap)
 have HO:Hid (Cs w0 W base g (n8 7 m a b ng n sa sl sc ao nk cap) s s 30 #[.agg (n8 7 m a b ng n sa sl sc ao nk cap)] (.bool false)):=fun W' S=>oz_sn S (7) (m) (a) (b) (ng) (n) st ks sa sl sc ao nk cap hsl hnk _ ho
 unfold Met
 clear c
 go_enter Tryz.func26,Tryz.ntmps26
 go_wp2_with(first
  |(go_at_call 30;refine(HO.out _ HS.out).mono ?_;rintro e w1⟨rfl,d⟩;have HS1:Hid (Sn w0 W base g W.heap.size (n8 7 m a b ng n sa sl sc ao nk cap) s w1):=d;clear d))
 go_ret
 exact met_no (rfl) HS1.out.kt
theorem alternatives_few{w0 W:World}{base g:Nat}{s:Wr}(c:Cx w0 W base g s)(m a b:Int)(ng:Bool)(n:ByteArray)(sa:Option Addr)(sl sc:Nat)(ao:Option Addr)(nk cap:Nat)(st:List R)(ks:List Nd)(hsl:st.length=sl)(hnk:ks.length=nk)(ho:othersZ (.mk 7 m a b ng n st ks)=true)(h2:decide ((nk:Int)<2)=true)(h3:decide (nk<2)=true):Met 26 #[.pointer (some ⟨g,0,none⟩),.agg (n8 7 m a b ng n sa sl sc ao nk cap)] w0 W base g (none):=by
 have HS:=Sn.st c (n8 7 m a b ng n sa sl sc ao nk cap)
 have HO:Hid (Cs w0 W base g (n8 7 m a b ng n sa sl sc ao nk cap) s s 30 #[.agg (n8 7 m a b ng n sa sl sc ao nk cap)] (.bool true)):=fun W' S=>oz_sn S (7) (m) (a) (b) (ng) (n) st ks sa sl sc ao nk cap hsl hnk _ ho
 unfold Met
 clear c
 go_enter Tryz.func26,Tryz.ntmps26
 go_wp2_with(first
  |(go_at_call 30;refine(HO.out _ HS.out).mono ?_;rintro e w1⟨rfl,d⟩;have HS1:Hid (Sn w0 W base g W.heap.size (n8 7 m a b ng n sa sl sc ao nk cap) s w1):=d;obtain⟨x0,x1,x2,x3,x4,x5,x6,x7⟩:=Bk.c8 d.bk;clear d))
 go_ret
 exact met_no (rfl) HS1.out.kt
theorem alternatives_w{w0 W:World}{base g:Nat}{s:Wr}(c:Cx w0 W base g s)(m a b:Int)(ng:Bool)(n:ByteArray)(sa:Option Addr)(sl sc:Nat)(ao:Option Addr)(nk cap:Nat)(st:List R)(ks:List Nd)(hsl:st.length=sl)(HL:Hid (ks.length=nk))(hcap:nk≤cap)(hbig:cap≤9223372036854775807)(HKV:Hid (KV base w0 ao ks))(ho:othersZ (.mk 7 m a b ng n st ks)=true)(h2:2≤nk)(fq:Wr→Nd→Option Wr)(P:Option Wr)(HP0:Hid (∀x,ks[0]?=some x→P=(fq s x).bind (loopO (fun s t=>(putO s ⟨#[124]⟩).bind fun s1=>fq s1 t) (ks.drop 1))))(HF:Hid (∀t∈ks,∀W' s' v,Cx w0 W' base g s'→NV base w0 t v→Met 25 #[.pointer (some ⟨g,0,none⟩),v] w0 W' base g (fq s' t))):Met 26 #[.pointer (some ⟨g,0,none⟩),.agg (n8 7 m a b ng n sa sl sc ao nk cap)] w0 W base g (P):=by
 have HS:=Sn.st c (n8 7 m a b ng n sa sl sc ao nk cap)
 have hnk:=HL.out
 have HO:Hid (Cs w0 W base g (n8 7 m a b ng n sa sl sc ao nk cap) s s 30 #[.agg (n8 7 m a b ng n sa sl sc ao nk cap)] (.bool true)):=fun W' S=>oz_sn S (7) (m) (a) (b) (ng) (n) st ks sa sl sc ao nk cap hsl hnk _ ho
 unfold Met
 have f2:decide ((nk:Int)<2)=false:=decide_eq_false (by omega)
 have f3:decide (nk<2)=false:=decide_eq_false (by omega)
 clear c hnk
 obtain⟨fb,hfb⟩:∃fb:Wr→Nd→Option Wr,(fun s t=>(putO s ⟨#[124]⟩).bind fun s1=>fq s1 t)=fb:=⟨_,rfl⟩
 rw[hfb]at HP0
 have HFB:Hid (∀s t,fb s t=(putO s ⟨#[124]⟩).bind fun s1=>fq s1 t):=fun s t=>by rw[←hfb]
 clear hfb
 go_enter Tryz.func26,Tryz.ntmps26
 go_wp2_with(first
  |(go_at_call 30;refine(HO.out _ HS.out).mono ?_;rintro e w1⟨rfl,d⟩;have HS1:Hid (Sn w0 W base g W.heap.size (n8 7 m a b ng n sa sl sc ao nk cap) s w1):=d;obtain⟨x0,x1,x2,x3,x4,x5,x6,x7⟩:=Bk.c8 d.bk;have HST:Hid (Cx w0 w1 base g s∧Kt base W w1):=⟨d.cx,d.kt⟩;clear d))
 go_loopw[19](fun i wr=>∃(j:Nat)(sj:Wr),j≤nk∧i=.int .i64 j∧Hid ((j=0∧sj=s)∨(0<j∧P=loopO fb (ks.drop j) sj))∧Hid (Cx w0 wr base g sj)∧Hid (Kt base W wr))(fun i _=>nk-(intOf i).toNat)
 case atStart=>exact⟨0,s,by omega,rfl,.inl ⟨rfl,rfl⟩,HST.out.1,HST.out.2⟩
 case round=>
  obtain⟨j,sj,hj,rfl,HJ,HCX,HKT⟩:=hrel
  clear HST HS HS1
  by_cases hlt:j<nk
  ·obtain⟨t,ht⟩:=getX HL.out hlt
   obtain⟨bb,off,rfl,hka⟩:=HKV.out.some (by have:=HL.out;omega)
   obtain⟨k',m',a',b',g',n',s',kk,sa',sc',ao',cap',rfl,⟨e0,e1,e2,e3,e4,e5,e6,e7⟩,hv'⟩:=hka.kid ht
   have hbb:=hka.1
   have bl:=HCX.out.c.bel
   have d0:=(bl.cell (p:=⟨bb,off+j*8,none⟩) hbb).trans e0
   have d1:=(bl.cell (p:=⟨bb,off+j*8+1,none⟩) hbb).trans e1
   have d2:=(bl.cell (p:=⟨bb,off+j*8+2,none⟩) hbb).trans e2
   have d3:=(bl.cell (p:=⟨bb,off+j*8+3,none⟩) hbb).trans e3
   have d4:=(bl.cell (p:=⟨bb,off+j*8+4,none⟩) hbb).trans e4
   have d5:=(bl.cell (p:=⟨bb,off+j*8+5,none⟩) hbb).trans e5
   have d6:=(bl.cell (p:=⟨bb,off+j*8+6,none⟩) hbb).trans e6
   have d7:=(bl.cell (p:=⟨bb,off+j*8+7,none⟩) hbb).trans e7
   clear e0 e1 e2 e3 e4 e5 e6 e7
   have hmem:=List.mem_of_getElem? ht
   generalize s'.length=sl' at*
   generalize kk.length=nk' at*
   obtain⟨T,hTT⟩:∃T,Nd.mk k' m' a' b' g' n' s' kk=T:=⟨_,rfl⟩
   rw[hTT]at ht hmem hv'
   clear hTT
   have HW1:Hid (Cx w0 (wr.alloc (.cells (n8 k' m' a' b' g' n' sa' sl' sc' ao' nk' cap') 25)) base g sj):=HCX.out.on ((Below.refl _ wr).alloc (Nat.le_refl _) _)
   have HK1:Hid (Kt base W (wr.alloc (.cells (n8 k' m' a' b' g' n' sa' sl' sc' ao' nk' cap') 25))):=HKT.out.trans (HCX.out.kt ((Below.refl _ wr).alloc (Nat.le_refl _) _))
   have hsz:=HCX.out.c.size
   have CM:Hid (∀W' s',Cx w0 W' base g s'→Met 25 #[.pointer (some ⟨g,0,none⟩),.agg (n8 k' m' a' b' g' n' sa' sl' sc' ao' nk' cap')] w0 W' base g (fq s' T)):=fun W' s' c'=>HF.out T hmem W' s' _ c' hv'
   by_cases z:j=0
   ·have f0:decide (0<(j:Int))=false:=decide_eq_false (by omega)
    have f0':decide (0<j)=false:=decide_eq_false (by omega)
    have hsj:sj=s:=by rcases HJ.out with h|h;exact h.2;omega
    have HDR:Hid (P=(fq sj T).bind (loopO fb (ks.drop (j+1)))):=by unfold Hid;rw[hsj,show j+1=1 by omega];exact HP0.out T (by rw[←z];exact ht)
    cases hP:fq sj T with
    |none=>
     have C:=(CM.out _ sj HW1.out).no hP
     have HE:Hid (P=none):=by unfold Hid;rw[HDR.out,hP];rfl
     clear HJ HCX HKT HKV HF hka hv' hmem ht bl CM HDR hP HW1 HP0 hsj z
     go_wp2_with(go_at_call 25;refine C.mono ?_;rintro e w2⟨rfl,d⟩;have HZ:Hid (Kt base W w2):=HK1.out.trans d;clear d)
     go_ret
     exact met_no HE.out HZ.out
    |some s2=>
     have C:=(CM.out _ sj HW1.out).ok hP
     have HE:Hid (P=loopO fb (ks.drop (j+1)) s2):=by unfold Hid;rw[HDR.out,hP];rfl
     clear HJ HCX HKT HKV HF hka hv' hmem ht bl CM HDR hP HW1 HP0 hsj z
     go_wp2_with(go_at_call 25;refine C.mono ?_;rintro e w2⟨rfl,d,d'⟩;have HC2:Hid (Cx w0 w2 base g s2):=d;have HZ:Hid (Kt base W w2):=HK1.out.trans d';clear d d')
     go_roundw
     case rel=>exact⟨j+1,s2,by omega,by go_num,.inr ⟨by omega,HE.out⟩,HC2,HZ⟩
     case measure=>simp[intOf];omega
   ·have f0:decide (0<(j:Int))=true:=decide_eq_true (by omega)
    have f0':decide (0<j)=true:=decide_eq_true (by omega)
    have HPJ:Hid (P=loopO fb (ks.drop j) sj):=by rcases HJ.out with h|h;omega;exact h.2
    have HDR:Hid (P=((putO sj ⟨#[124]⟩).bind fun s1=>fq s1 T).bind (loopO fb (ks.drop (j+1)))):=by unfold Hid;rw[HPJ.out,dropX ht,loopO,HFB.out]
    have HYB:Hid (Bk (wr.alloc (.cells (n8 k' m' a' b' g' n' sa' sl' sc' ao' nk' cap') 25)) wr.heap.size (n8 k' m' a' b' g' n' sa' sl' sc' ao' nk' cap') 25):=Bk.new wr _ _
    have PM:=put_met HW1.out ⟨#[124]⟩ (by decide)
    cases hQ:putO sj ⟨#[124]⟩with
    |none=>
     have C:=PM.no hQ
     have HE:Hid (P=none):=by unfold Hid;rw[HDR.out,hQ];rfl
     clear HJ HCX HKT HKV HF hka hv' hmem ht bl CM HDR hQ HW1 HP0 HPJ HYB PM z
     go_wp2_with(go_at_call 32;refine C.mono ?_;rintro e w2⟨rfl,d⟩;have HZ:Hid (Kt base W w2):=HK1.out.trans d;clear d)
     go_ret
     exact met_no HE.out HZ.out
    |some s1=>
     have CP:=PM.ok hQ
     cases hP:fq s1 T with
     |none=>
      have C:Hid (∀W',Cx w0 W' base g s1→_):=fun W' c'=>(CM.out W' s1 c').no hP
      have HE:Hid (P=none):=by unfold Hid;rw[HDR.out,hQ];simp only[Option.bind_some];rw[hP];rfl
      clear HJ HCX HKT HKV HF hka hv' hmem ht bl CM HDR hQ HW1 HP0 HPJ PM z hP
      go_wp2_with(first
       |(go_at_call 32;refine CP.mono ?_;rintro e w2⟨rfl,d,d'⟩;have HC2:Hid (Cx w0 w2 base g s1):=d;have HK2:Hid (Kt base W w2):=HK1.out.trans d';have YB:=Bk.kt HYB.out d' nodeT.1 nodeT.2.1 nodeT.2.2;obtain⟨y0,y1,y2,y3,y4,y5,y6,y7⟩:=Bk.c8 YB;clear d d' YB)
       |(go_at_call 25;refine(C.out _ HC2.out).mono ?_;rintro e w3⟨rfl,d⟩;have HZ:Hid (Kt base W w3):=HK2.out.trans d;clear d))
      go_ret
      exact met_no HE.out HZ.out
     |some s2=>
      have C:Hid (∀W',Cx w0 W' base g s1→_):=fun W' c'=>(CM.out W' s1 c').ok hP
      have HE:Hid (P=loopO fb (ks.drop (j+1)) s2):=by unfold Hid;rw[HDR.out,hQ];simp only[Option.bind_some];rw[hP];rfl
      clear HJ HCX HKT HKV HF hka hv' hmem ht bl CM HDR hQ HW1 HP0 HPJ PM z hP
      go_wp2_with(first
       |(go_at_call 32;refine CP.mono ?_;rintro e w2⟨rfl,d,d'⟩;have HC2:Hid (Cx w0 w2 base g s1):=d;have HK2:Hid (Kt base W w2):=HK1.out.trans d';have YB:=Bk.kt HYB.out d' nodeT.1 nodeT.2.1 nodeT.2.2;obtain⟨y0,y1,y2,y3,y4,y5,y6,y7⟩:=Bk.c8 YB;clear d d' YB)
       |(go_at_call 25;refine(C.out _ HC2.out).mono ?_;rintro e w3⟨rfl,d,d'⟩;have HC3:Hid (Cx w0 w3 base g s2):=d;have HZ:Hid (Kt base W w3):=HK2.out.trans d';clear d d'))
      go_roundw
      case rel=>exact⟨j+1,s2,by omega,by go_num,.inr ⟨by omega,HE.out⟩,HC3,HZ⟩
      case measure=>simp[intOf];omega
  ·have HE:Hid (P=some sj):=by
    unfold Hid
    rcases HJ.out with h|h
    ·omega
    ·rw[h.2,List.drop_of_length_le (by have:=HL.out;omega),loopO]
   clear HJ HKV HF HP0
   go_wp2
   go_ret
   exact met_ok HE.out HCX.out HKT.out
end Go.Proofs.YtbbeciofgnkggaaGreatDoor.tre
namespace Go.Proofs
open Go.Shelf
def Tryz.laysM171_ren:Go.Shelf.Ren:=⟨fun|171=>47|243=>65|246=>76|283=>91|284=>92|285=>93|286=>94|129=>108|317=>107|318=>109|319=>110|320=>111|337=>123|338=>124|n=>n,fun|3=>3|9=>9|2=>2|4=>4|171=>109|0=>0|53=>110|37=>47|5=>5|173=>113|212=>126|51=>127|20=>20|213=>128|46=>62|232=>150|233=>151|n=>n,fun|17=>2|18=>6|19=>7|n=>n⟩
theorem Tryz.laysM171:Go.Proofs.LaysM.n171 Tryz.prog Tryz.laysM171_ren:={
 mixed:=by kernel_rfl
 f129:=Tryz.func108.trans (congrArg some (by kernel_rfl))
 f171:=Tryz.func47.trans (congrArg some (by kernel_rfl))
 f243:=Tryz.func65.trans (congrArg some (by kernel_rfl))
 f246:=Tryz.func76.trans (congrArg some (by kernel_rfl))
 f283:=Tryz.func91.trans (congrArg some (by kernel_rfl))
 f284:=Tryz.func92.trans (congrArg some (by kernel_rfl))
 f285:=Tryz.func93.trans (congrArg some (by kernel_rfl))
 f286:=Tryz.func94.trans (congrArg some (by kernel_rfl))
 f317:=Tryz.func107.trans (congrArg some (by kernel_rfl))
 f318:=Tryz.func109.trans (congrArg some (by kernel_rfl))
 f319:=Tryz.func110.trans (congrArg some (by kernel_rfl))
 f320:=Tryz.func111.trans (congrArg some (by kernel_rfl))
 f337:=Tryz.func123.trans (congrArg some (by kernel_rfl))
 f338:=Tryz.func124.trans (congrArg some (by kernel_rfl))
 t0:=Tryz.underlying0
 a0:=Tryz.isAgg0
 z0:=Tryz.sizeOf0
 v0:=Tryz.zeroValue0
 t2:=Tryz.underlying2
 a2:=Tryz.isAgg2
 z2:=Tryz.sizeOf2
 v2:=Tryz.zeroValue2
 t3:=Tryz.underlying3
 a3:=Tryz.isAgg3
 z3:=Tryz.sizeOf3
 v3:=Tryz.zeroValue3
 t4:=Tryz.underlying4
 a4:=Tryz.isAgg4
 z4:=Tryz.sizeOf4
 v4:=Tryz.zeroValue4
 t5:=Tryz.underlying5
 a5:=Tryz.isAgg5
 z5:=Tryz.sizeOf5
 v5:=Tryz.zeroValue5
 t9:=Tryz.underlying9
 a9:=Tryz.isAgg9
 z9:=Tryz.sizeOf9
 v9:=Tryz.zeroValue9
 t20:=Tryz.underlying20
 a20:=Tryz.isAgg20
 z20:=Tryz.sizeOf20
 v20:=Tryz.zeroValue20
 t37:=Tryz.underlying47
 a37:=Tryz.isAgg47
 z37:=Tryz.sizeOf47
 v37:=Tryz.zeroValue47
 t46:=Tryz.underlying62
 a46:=Tryz.isAgg62
 z46:=Tryz.sizeOf62
 v46:=Tryz.zeroValue62
 t51:=Tryz.underlying127
 a51:=Tryz.isAgg127
 z51:=Tryz.sizeOf127
 v51:=Tryz.zeroValue127
 t53:=Tryz.underlying110
 a53:=Tryz.isAgg110
 z53:=Tryz.sizeOf110
 v53:=Tryz.zeroValue110
 t171:=Tryz.underlying109
 a171:=Tryz.isAgg109
 z171:=Tryz.sizeOf109
 v171:=Tryz.zeroValue109
 t173:=Tryz.underlying113
 a173:=Tryz.isAgg113
 z173:=Tryz.sizeOf113
 v173:=Tryz.zeroValue113
 t212:=Tryz.underlying126
 a212:=Tryz.isAgg126
 z212:=Tryz.sizeOf126
 v212:=Tryz.zeroValue126
 t213:=Tryz.underlying128
 a213:=Tryz.isAgg128
 z213:=Tryz.sizeOf128
 t232:=Tryz.underlying150
 a232:=Tryz.isAgg150
 z232:=Tryz.sizeOf150
 v232:=Tryz.zeroValue150
 t233:=Tryz.underlying151
 a233:=Tryz.isAgg151
 z233:=Tryz.sizeOf151
 v233:=Tryz.zeroValue151
 g17:=by kernel_rfl
 g18:=by kernel_rfl
 g19:=by kernel_rfl
 i0:=by kernel_rfl
 i2:=by kernel_rfl
 i3:=by kernel_rfl
 i4:=by kernel_rfl
 i5:=by kernel_rfl
 i9:=by kernel_rfl
 i20:=by kernel_rfl
 i37:=by kernel_rfl
 i46:=by kernel_rfl
 i51:=by kernel_rfl
 i53:=by kernel_rfl
 i171:=by kernel_rfl
 i173:=by kernel_rfl
 i212:=by kernel_rfl
 i232:=by kernel_rfl
 i233:=by kernel_rfl
 m17:=by kernel_rfl
 m18:=by kernel_rfl
 m19:=by kernel_rfl}
open Go.RowKit Go.Sort Go.Lib in
theorem Tryz.strconv_Itoa(n:Int)(h0:-9223372036854775808≤n)(h1:n≤9223372036854775807)(w:World)(htab:Lib.TabIs Tryz.prog w "internal/strconv.uint64pow10" .u64 Lib.pow10Tab):
 Calls Tryz.prog 47 #[.int .i64 n] w fun e w'=>e=.returned (.string ⟨(Lib.itoa n).toArray⟩)∧∃k os,w'=grow (w.drewN k) os:=Any.strconv_Itoa Tryz.laysM171 n h0 h1 w htab
def Tryz.lays110_ren:Go.Shelf.Ren:=⟨fun|110=>64|109=>81|n=>n,fun|31=>40|9=>9|4=>4|3=>3|0=>0|n=>n,fun|n=>n⟩
theorem Tryz.lays110:Go.Proofs.Lays.n110 Tryz.prog Tryz.lays110_ren:={
 mixed:=by kernel_rfl
 f109:=Tryz.func81.trans (congrArg some (by kernel_rfl))
 f110:=Tryz.func64.trans (congrArg some (by kernel_rfl))
 t0:=Tryz.underlying0
 a0:=Tryz.isAgg0
 z0:=Tryz.sizeOf0
 v0:=Tryz.zeroValue0
 t3:=Tryz.underlying3
 a3:=Tryz.isAgg3
 z3:=Tryz.sizeOf3
 v3:=Tryz.zeroValue3
 t4:=Tryz.underlying4
 a4:=Tryz.isAgg4
 z4:=Tryz.sizeOf4
 v4:=Tryz.zeroValue4
 t9:=Tryz.underlying9
 a9:=Tryz.isAgg9
 z9:=Tryz.sizeOf9
 v9:=Tryz.zeroValue9
 t31:=Tryz.underlying40
 a31:=Tryz.isAgg40
 z31:=Tryz.sizeOf40
 v31:=Tryz.zeroValue40}
open Go.Lib in
theorem Tryz.slices_Contains_string(b off n c:Nat)(zs:List ByteArray)(x:ByteArray)(w:World)(hz:n≤zs.length)(hbig:n≤9223372036854775807)(hc:∀j,j<zs.length→w.cell? ⟨b,off+j,none⟩=some (.string (zs.getD j ByteArray.empty))):
 Calls Tryz.prog 64 #[.slice (some ⟨b,off,none⟩) n c,.string x] w fun e w'=>e=.returned (.bool (Lib.containsS (zs.take n) x))∧w'=w:=Any.slices_Contains_string Tryz.lays110 b off n c zs x w hz hbig hc
open Go.Lib in
theorem Tryz.slices_Contains_string_empty(a:Option Addr)(c:Nat)(x:ByteArray)(w:World):
 Calls Tryz.prog 64 #[.slice a 0 c,.string x] w fun e w'=>e=.returned (.bool false)∧w'=w:=Any.slices_Contains_string_empty Tryz.lays110 a c x w
end Go.Proofs
namespace Go.Proofs.YtbbeciofgnkggaaGreatDoor.tre
open Go.RowKit nod
open rng(R RV ret_int ret_bool below_drewN info_parts own_below')
open tok(PEnv TX printL)
def Pw(w:World):Prop:=Lib.TabIs Tryz.prog w "internal/strconv.uint64pow10" .u64 Lib.pow10Tab
theorem Pw.on{w w':World}(h:Pw w)(hb:Below w.heap.size w w'):Pw w':=by
 unfold Pw Lib.TabIs World.var? at*
 cases hg:Tryz.prog.globalNamed "internal/strconv.uint64pow10"with
 |none=>simp[hg]at h
 |some g=>
  simp only[hg,Option.bind_some]at h⊢
  have hlt:g<w.heap.size:=by
   rcases Nat.lt_or_ge g w.heap.size with h'|h'
   ·exact h'
   ·rw[Array.getElem?_eq_none h']at h;simp at h
  rw[hb.block g hlt]
  exact h
theorem itoa_any(n:Int)(h:I64 n)(w:World)(E:Pw w):Calls Tryz.prog 47 #[.int .i64 n] w fun e w'=>e=.returned (.string (dec n))∧Below w.heap.size w w':=
 (Tryz.strconv_Itoa n h.1 h.2 w E).mono fun e w'⟨h1,k,os,h2⟩=>⟨h1,by
  rw[h2]
  exact⟨rfl,rfl,rfl,by show w.heap.size≤(w.heap++os).size;rw[Array.size_append];omega,fun j hj=>by show(w.heap++os)[j]?=_;rw[Array.getElem?_append_left hj]⟩⟩
theorem decW_size(n:Int)(h0:0≤n)(h1:n≤100):(dec n).size≤3:=by
 obtain⟨k,rfl⟩:∃k:Nat,n=k:=⟨n.toNat,by omega⟩
 have key:∀k:Fin 101,(dec (k.val:Int)).size≤3:=by decide+kernel
 exact key ⟨k,by omega⟩
theorem times_any(a b:Int)(ha:I64 a)(hb:I64 b)(w:World)(E:Pw w):Calls Tryz.prog 63 #[.int .i64 a,.int .i64 b] w fun e w'=>e=.returned (.string (timesT a b))∧Below w.heap.size w w':=by
 have s1:ByteArray.size ⟨#[123]⟩=1:=rfl
 have s2:ByteArray.size ⟨#[125]⟩=1:=rfl
 have s3:ByteArray.size ⟨#[44,125]⟩=2:=rfl
 have s4:ByteArray.size ⟨#[44]⟩=1:=rfl
 have HR:Hid (Below w.heap.size w w):=Below.refl _ w
 by_cases c0:a<0
 ·have HE:Hid (timesT a b=ByteArray.empty):=by unfold Hid timesT;rw[if_pos (.inl c0)]
  have f0:decide (a<0)=true:=decide_eq_true c0
  rw[HE.out]
  clear HE
  go_enter Tryz.func63,Tryz.ntmps63
  go_wp2
  all_goals(go_ret;exact⟨rfl,HR.out⟩)
 have f0:decide (a<0)=false:=decide_eq_false c0
 obtain⟨M,hM⟩:∃M,(if a<b then b else a)=M:=⟨_,rfl⟩
 have hMm:max a b=M:=by rw[←hM];split<;>omega
 by_cases c1:b=-1
 ·subst c1
  have hM2:M=a:=by omega
  subst hM2
  by_cases c2:100<M
  ·have HE:Hid (timesT M (-1)=ByteArray.empty):=by unfold Hid timesT;rw[if_pos (.inr (.inr (by omega)))]
   have f2:decide (100<M)=true:=decide_eq_true c2
   rw[HE.out]
   clear HE hM
   go_enter Tryz.func63,Tryz.ntmps63
   go_wp2
   go_ret
   exact⟨rfl,HR.out⟩
  have f2:decide (100<M)=false:=decide_eq_false c2
  have n0:¬(M<0∨((-1:Int)≠-1∧(-1:Int)<M)∨100<max M (-1)):=by omega
  by_cases c3:M=0
  ·subst c3
   have HE:Hid (timesT 0 (-1)=⟨#[42]⟩):=by unfold Hid;decide
   rw[HE.out]
   clear HE hM n0
   go_enter Tryz.func63,Tryz.ntmps63
   go_wp2
   go_ret
   exact⟨rfl,HR.out⟩
  by_cases c4:M=1
  ·subst c4
   have HE:Hid (timesT 1 (-1)=⟨#[43]⟩):=by unfold Hid;decide
   rw[HE.out]
   clear HE hM n0
   go_enter Tryz.func63,Tryz.ntmps63
   go_wp2
   go_ret
   exact⟨rfl,HR.out⟩
  have HE:Hid (timesT M (-1)=(⟨#[123]⟩++dec M)++⟨#[44,125]⟩):=by
   unfold Hid timesT;rw[if_neg n0,if_neg (by omega),if_neg (by omega),if_neg (by omega),if_neg (by omega),if_pos rfl]
  rw[HE.out]
  have hd:=decW_size M (by omega) (by omega)
  have C:=itoa_any M ha w E
  obtain⟨X,hX⟩:∃X,dec M=X:=⟨_,rfl⟩
  rw[hX]at C hd⊢
  obtain⟨Y,hY⟩:∃Y,(⟨#[123]⟩:ByteArray)++X=Y:=⟨_,rfl⟩
  have d1:Y.size=X.size+1:=by rw[←hY,ByteArray.size_append,s1];omega
  rw[hY]
  have f3:(M==0)=false:=by simpa using c3
  have f4:(M==1)=false:=by simpa using c4
  have f5:(M==-1)=false:=by simp;omega
  clear HE hM n0 hX
  go_enter Tryz.func63,Tryz.ntmps63
  go_wp2_with(go_at_call 47;refine C.mono ?_;rintro e w1⟨rfl,d⟩;have HW:Hid (Below w.heap.size w w1):=d;clear d)
  go_ret
  exact⟨rfl,HW.out⟩
 have f1:(b==-1)=false:=by simpa using c1
 by_cases c2:b<a
 ·have HE:Hid (timesT a b=ByteArray.empty):=by unfold Hid timesT;rw[if_pos (.inr (.inl ⟨c1,c2⟩))]
  have f2:decide (b<a)=true:=decide_eq_true c2
  rw[HE.out]
  clear HE hMm hM
  go_enter Tryz.func63,Tryz.ntmps63
  go_wp2
  all_goals(go_ret;exact⟨rfl,HR.out⟩)
 have f2:decide (b<a)=false:=decide_eq_false c2
 by_cases c3:100<M
 ·have HE:Hid (timesT a b=ByteArray.empty):=by unfold Hid timesT;rw[if_pos (.inr (.inr (by omega)))]
  have f3:decide (100<M)=true:=decide_eq_true c3
  rw[HE.out]
  clear HE hM
  go_enter Tryz.func63,Tryz.ntmps63
  go_wp2
  all_goals(go_ret;exact⟨rfl,HR.out⟩)
 have f3:decide (100<M)=false:=decide_eq_false c3
 have n0:¬(a<0∨(b≠-1∧b<a)∨100<max a b):=by omega
 have HMM:Hid (M=b):=by unfold Hid;omega
 by_cases c4:a=b
 ·subst c4
  have HE:Hid (timesT a a=(⟨#[123]⟩++dec a)++⟨#[125]⟩):=by
   unfold Hid timesT;rw[if_neg n0,if_neg (by omega),if_neg (by omega),if_neg (by omega),if_pos rfl]
  rw[HE.out]
  have hd:=decW_size a (by omega) (by omega)
  have C:=itoa_any a ha w E
  obtain⟨X,hX⟩:∃X,dec a=X:=⟨_,rfl⟩
  rw[hX]at C hd⊢
  obtain⟨Y,hY⟩:∃Y,(⟨#[123]⟩:ByteArray)++X=Y:=⟨_,rfl⟩
  have d1:Y.size=X.size+1:=by rw[←hY,ByteArray.size_append,s1];omega
  rw[hY]
  clear HE hM n0 hX HMM
  by_cases z:a=0
  ·subst z
   go_enter Tryz.func63,Tryz.ntmps63
   go_wp2_with(go_at_call 47;refine C.mono ?_;rintro e w1⟨rfl,d⟩;have HW:Hid (Below w.heap.size w w1):=d;clear d)
   go_ret
   exact⟨rfl,HW.out⟩
  by_cases z1:a=1
  ·subst z1
   go_enter Tryz.func63,Tryz.ntmps63
   go_wp2_with(go_at_call 47;refine C.mono ?_;rintro e w1⟨rfl,d⟩;have HW:Hid (Below w.heap.size w w1):=d;clear d)
   go_ret
   exact⟨rfl,HW.out⟩
  have g0:(a==0)=false:=by simpa using z
  have g1:(a==1)=false:=by simpa using z1
  clear z1
  go_enter Tryz.func63,Tryz.ntmps63
  go_wp2_with(go_at_call 47;refine C.mono ?_;rintro e w1⟨rfl,d⟩;have HW:Hid (Below w.heap.size w w1):=d;clear d)
  go_ret
  exact⟨rfl,HW.out⟩
 by_cases c5:a=0∧b=1
 ·obtain⟨rfl,rfl⟩:=c5
  have HE:Hid (timesT 0 1=⟨#[63]⟩):=by unfold Hid;decide
  rw[HE.out]
  clear HE hM n0 HMM
  go_enter Tryz.func63,Tryz.ntmps63
  go_wp2
  go_ret
  exact⟨rfl,HR.out⟩
 have HE:Hid (timesT a b=(((⟨#[123]⟩++dec a)++⟨#[44]⟩)++dec b)++⟨#[125]⟩):=by
  unfold Hid timesT;rw[if_neg n0,if_neg (by omega),if_neg (by omega),if_neg c5,if_neg c4,if_neg c1]
 rw[HE.out]
 have hd:=decW_size a (by omega) (by omega)
 have hd2:=decW_size b (by have:=HMM.out;omega) (by have:=HMM.out;omega)
 have C:=itoa_any a ha w E
 have C2:Hid (∀W,Below w.heap.size w W→Calls Tryz.prog 47 #[.int .i64 b] W fun e w'=>e=.returned (.string (dec b))∧Below w.heap.size w w'):=fun W h=>(itoa_any b hb W (E.on h)).mono fun e w'⟨h1,h2⟩=>⟨h1,h.trans (below_less h2 h.size)⟩
 obtain⟨X,hX⟩:∃X,dec a=X:=⟨_,rfl⟩
 rw[hX]at C hd⊢
 obtain⟨Z,hZ⟩:∃Z,dec b=Z:=⟨_,rfl⟩
 rw[hZ]at C2 hd2⊢
 obtain⟨Y,hY⟩:∃Y,(⟨#[123]⟩:ByteArray)++X=Y:=⟨_,rfl⟩
 have d1:Y.size=X.size+1:=by rw[←hY,ByteArray.size_append,s1];omega
 rw[hY]
 obtain⟨Y2,hY2⟩:∃Y2,Y++(⟨#[44]⟩:ByteArray)=Y2:=⟨_,rfl⟩
 have d2:Y2.size=X.size+2:=by rw[←hY2,ByteArray.size_append,s4];omega
 rw[hY2]
 obtain⟨Y3,hY3⟩:∃Y3,Y2++Z=Y3:=⟨_,rfl⟩
 have d3:Y3.size=X.size+2+Z.size:=by rw[←hY3,ByteArray.size_append];omega
 rw[hY3]
 have f4:(a==b)=false:=by simpa using c4
 have f5:((a==0)&&(b==1))=false:=by simpa using c5
 by_cases z:a=0
 ·subst z
  have g1:(b==1)=false:=by simpa using c5
  clear HE hM n0 hX hZ HMM f5
  go_enter Tryz.func63,Tryz.ntmps63
  go_wp2_with(first|(go_at_call_of 47(Value.int IntKind.i64 0);refine C.mono ?_;rintro e w1⟨rfl,d⟩;have HW:Hid (Below w.heap.size w w1):=d;clear d)|(go_at_call 47;refine(C2.out _ HW.out).mono ?_;rintro e w2⟨rfl,d⟩;have HW2:Hid (Below w.heap.size w w2):=d;clear d))
  go_ret
  exact⟨rfl,HW2.out⟩
 have g0:(a==0)=false:=by simpa using z
 by_cases z1:a=1
 ·subst z1
  clear HE hM n0 hX hZ HMM f5
  go_enter Tryz.func63,Tryz.ntmps63
  go_wp2_with(first|(go_at_call_of 47(Value.int IntKind.i64 1);refine C.mono ?_;rintro e w1⟨rfl,d⟩;have HW:Hid (Below w.heap.size w w1):=d;clear d)|(go_at_call 47;refine(C2.out _ HW.out).mono ?_;rintro e w2⟨rfl,d⟩;have HW2:Hid (Below w.heap.size w w2):=d;clear d))
  go_ret
  exact⟨rfl,HW2.out⟩
 have g1:(a==1)=false:=by simpa using z1
 clear HE hM n0 hX hZ HMM f5
 go_enter Tryz.func63,Tryz.ntmps63
 go_wp2_with(first|(go_at_call_of 47(Value.int IntKind.i64 a);refine C.mono ?_;rintro e w1⟨rfl,d⟩;have HW:Hid (Below w.heap.size w w1):=d;clear d)|(go_at_call 47;refine(C2.out _ HW.out).mono ?_;rintro e w2⟨rfl,d⟩;have HW2:Hid (Below w.heap.size w w2):=d;clear d))
 go_ret
 exact⟨rfl,HW2.out⟩
end Go.Proofs.YtbbeciofgnkggaaGreatDoor.tre
namespace Go.Proofs.YtbbeciofgnkggaaGreatDoor.tre
open Go.RowKit nod
open rng(R RV ret_int ret_bool below_drewN info_parts own_below')
open tok(PEnv TX printL)
theorem tv_new(W:World)(l:List ByteArray):TV (W.alloc (.cells (l.map Value.string).toArray 9)) (some ⟨W.heap.size,0,none⟩) l:=
 ⟨_,_,rfl,fun i t hi=>by
  rw[Nat.zero_add]
  exact(Bk.new W _ _).cell i (by simp[hi])⟩
theorem modes_any(m:Int)(W:World):Calls Tryz.prog 46 #[.int .i64 m,.slice (some ⟨W.heap.size,0,none⟩) 3 3] (W.alloc (.cells #[.string ByteArray.empty,.string ⟨#[63]⟩,.string ⟨#[43]⟩] 9)) fun e w'=>e=.returned (.string (textP m modeTexts))∧(W.alloc (.cells #[.string ByteArray.empty,.string ⟨#[63]⟩,.string ⟨#[43]⟩] 9))=w':=
 (text_any m _ 3 modeTexts _ (tv_new W modeTexts) (by decide)).mono fun e w'⟨h1,h2⟩=>⟨h1,h2.symm⟩
theorem modes_size(m:Int):(textP m modeTexts).size≤1:=by
 unfold textP
 split
 ·decide
 ·match m.toNat with
  |0=>decide
  |1=>decide
  |2=>decide
  |k+3=>rw[List.getElem?_eq_none (by simp[modeTexts])];decide
theorem times_size(a b:Int):(timesT a b).size≤9:=by
 unfold timesT
 by_cases h0:a<0∨(b≠-1∧b<a)∨100<max a b
 ·rw[if_pos h0];decide
 rw[if_neg h0]
 have ha:=decW_size a (by omega) (by omega)
 split;·decide
 split;·decide
 split;·decide
 split
 ·rw[ByteArray.size_append,ByteArray.size_append];show 1+(dec a).size+1≤9;omega
 split
 ·rw[ByteArray.size_append,ByteArray.size_append];show 1+(dec a).size+2≤9;omega
 ·have hb:=decW_size b (by omega) (by omega)
  rw[ByteArray.size_append,ByteArray.size_append,ByteArray.size_append,ByteArray.size_append];show 1+(dec a).size+1+(dec b).size+1≤9;omega
theorem pw_of{w0 W:World}{base g:Nat}{s:Wr}(c:Cx w0 W base g s)(h:Pw w0):Pw W:=h.on (c.c.hb▸c.c.bel)
theorem repeat_few{w0 W:World}{base g:Nat}{s:Wr}(c:Cx w0 W base g s)(k m a b:Int)(ng:Bool)(n:ByteArray)(sa:Option Addr)(sl sc:Nat)(ao:Option Addr)(nk cap:Nat)(hk:¬(nk:Int)=1)(hk2:¬nk=1):Met 43 #[.pointer (some ⟨g,0,none⟩),.agg (n8 k m a b ng n sa sl sc ao nk cap)] w0 W base g (none):=by
 have HS:=Sn.st c (n8 k m a b ng n sa sl sc ao nk cap)
 unfold Met
 clear c
 go_enter Tryz.func43,Tryz.ntmps43
 go_wp2
 go_ret
 exact met_no (rfl) HS.out.kt
theorem repeat_not{w0 W:World}{base g:Nat}{s:Wr}(c:Cx w0 W base g s)(k m a b:Int)(ng:Bool)(n:ByteArray)(sa:Option Addr)(sl sc:Nat)(kb ko cap:Nat)(hcap:1≤cap)(kk:Int)(c1 c2 c3 c4 c5 c6 c7:Value)(HA:Hid (At8 w0 kb ko (.agg #[.int .i64 kk,c1,c2,c3,c4,c5,c6,c7])))(hkb:kb<base)(hr:repB kk=false∨m<0∨2<m):Met 43 #[.pointer (some ⟨g,0,none⟩),.agg (n8 k m a b ng n sa sl sc (some ⟨kb,ko,none⟩) 1 cap)] w0 W base g (none):=by
 have HS:=Sn.st c (n8 k m a b ng n sa sl sc (some ⟨kb,ko,none⟩) 1 cap)
 have hgb:=c.c.size
 obtain⟨k0,k1,k2,k3,k4,k5,k6,k7⟩:=HS.out.kid HA.out hkb
 have HR:Hid (Cs w0 W base g (n8 k m a b ng n sa sl sc (some ⟨kb,ko,none⟩) 1 cap) s s 62 #[.int .i64 kk] (.bool (repB kk))):=fun W' S=>still_of S (repeatable_any kk W')
 unfold Met
 clear c
 cases hq:repB kk with
 |false=>
  rw[hq]at HR
  clear hr hq
  go_enter Tryz.func43,Tryz.ntmps43
  go_wp2_with(first
   |(go_at_call 62;refine(HR.out _ HS.out).mono ?_;rintro e w1⟨rfl,d⟩;have HS1:Hid (Sn w0 W base g W.heap.size (n8 k m a b ng n sa sl sc (some ⟨kb,ko,none⟩) 1 cap) s w1):=d;obtain⟨x0,x1,x2,x3,x4,x5,x6,x7⟩:=Bk.c8 d.bk;clear d))
  go_ret
  exact met_no (rfl) HS1.out.kt
 |true=>
  rw[hq]at HR
  by_cases h1:m<0
  ·have f1:decide (m<0)=true:=decide_eq_true h1
   clear hr hq
   go_enter Tryz.func43,Tryz.ntmps43
   go_wp2_with(first
    |(go_at_call 62;refine(HR.out _ HS.out).mono ?_;rintro e w1⟨rfl,d⟩;have HS1:Hid (Sn w0 W base g W.heap.size (n8 k m a b ng n sa sl sc (some ⟨kb,ko,none⟩) 1 cap) s w1):=d;obtain⟨x0,x1,x2,x3,x4,x5,x6,x7⟩:=Bk.c8 d.bk;clear d))
   go_ret
   exact met_no (rfl) HS1.out.kt
  ·have f1:decide (m<0)=false:=decide_eq_false h1
   have f2:decide (2<m)=true:=decide_eq_true (by rcases hr with h|h|h;simp[hq]at h;omega;exact h)
   clear hr hq
   go_enter Tryz.func43,Tryz.ntmps43
   go_wp2_with(first
    |(go_at_call 62;refine(HR.out _ HS.out).mono ?_;rintro e w1⟨rfl,d⟩;have HS1:Hid (Sn w0 W base g W.heap.size (n8 k m a b ng n sa sl sc (some ⟨kb,ko,none⟩) 1 cap) s w1):=d;obtain⟨x0,x1,x2,x3,x4,x5,x6,x7⟩:=Bk.c8 d.bk;clear d))
   go_ret
   exact met_no (rfl) HS1.out.kt
theorem repeat_w{w0 W:World}{base g:Nat}{s:Wr}(c:Cx w0 W base g s)(k m a b:Int)(ng:Bool)(n:ByteArray)(sa:Option Addr)(sl sc:Nat)(kb ko cap:Nat)(hcap:1≤cap)(kk:Int)(c1 c2 c3 c4 c5 c6 c7:Value)(HA:Hid (At8 w0 kb ko (.agg #[.int .i64 kk,c1,c2,c3,c4,c5,c6,c7])))(hkb:kb<base)(hr:repB kk=true)(h0:0≤m)(h2:m≤2)(ha:I64 a)(hb:I64 b)(hpw:Pw w0)(Pp:Wr→Option Wr)(HI:Hid (∀W' s',Cx w0 W' base g s'→Met 31 #[.pointer (some ⟨g,0,none⟩),.agg #[.int .i64 kk,c1,c2,c3,c4,c5,c6,c7]] w0 W' base g (Pp s'))):Met 43 #[.pointer (some ⟨g,0,none⟩),.agg (n8 k m a b ng n sa sl sc (some ⟨kb,ko,none⟩) 1 cap)] w0 W base g (if(timesT a b).size=0 then none else(Pp s).bind fun s1=>putO s1 (timesT a b++textP m modeTexts)):=by
 have HS:=Sn.st c (n8 k m a b ng n sa sl sc (some ⟨kb,ko,none⟩) 1 cap)
 have hgb:=c.c.size
 obtain⟨k0,k1,k2,k3,k4,k5,k6,k7⟩:=HS.out.kid HA.out hkb
 have HR:Hid (Cs w0 W base g (n8 k m a b ng n sa sl sc (some ⟨kb,ko,none⟩) 1 cap) s s 62 #[.int .i64 kk] (.bool (repB kk))):=fun W' S=>still_of S (repeatable_any kk W')
 rw[hr]at HR
 have HTM:Hid (Cs w0 W base g (n8 k m a b ng n sa sl sc (some ⟨kb,ko,none⟩) 1 cap) s s 63 #[.int .i64 a,.int .i64 b] (.string (timesT a b))):=fun W' S=>quiet_of S (times_any a b ha hb W' (pw_of S.cx hpw))
 unfold Met
 have f1:decide (m<0)=false:=decide_eq_false (by omega)
 have f2:decide (2<m)=false:=decide_eq_false (by omega)
 have hT:=times_size a b
 generalize timesT a b=T at*
 by_cases z:T.size=0
 ·rw[if_pos z]
  have e1:T.toList.isEmpty=true:=lin.isEmpty_of z
  clear c z HI hr
  go_enter Tryz.func43,Tryz.ntmps43
  go_wp2_with(first
   |(go_at_call 62;refine(HR.out _ HS.out).mono ?_;rintro e w1⟨rfl,d⟩;have HS1:Hid (Sn w0 W base g W.heap.size (n8 k m a b ng n sa sl sc (some ⟨kb,ko,none⟩) 1 cap) s w1):=d;obtain⟨x0,x1,x2,x3,x4,x5,x6,x7⟩:=Bk.c8 d.bk;obtain⟨k0,k1,k2,k3,k4,k5,k6,k7⟩:=d.kid HA.out hkb;clear d)
   |(go_at_call 63;refine(HTM.out _ HS1.out).mono ?_;rintro e w2⟨rfl,d⟩;have HS2:Hid (Sn w0 W base g W.heap.size (n8 k m a b ng n sa sl sc (some ⟨kb,ko,none⟩) 1 cap) s w2):=d;obtain⟨x0,x1,x2,x3,x4,x5,x6,x7⟩:=Bk.c8 d.bk;obtain⟨k0,k1,k2,k3,k4,k5,k6,k7⟩:=d.kid HA.out hkb;clear d))
  go_ret
  exact met_no (rfl) HS2.out.kt
 rw[if_neg z]
 have e1:T.toList.isEmpty=false:=lin.isEmpty_not z
 cases h1:Pp s with
 |none=>
  have HJ:Hid (Cn w0 W base g (n8 k m a b ng n sa sl sc (some ⟨kb,ko,none⟩) 1 cap) s 31 #[.pointer (some ⟨g,0,none⟩),.agg #[.int .i64 kk,c1,c2,c3,c4,c5,c6,c7]] (.bool false)):=fun W' S=>Met.sn_no (HI.out W' s S.cx) h1 S
  clear c h1 HI z hr
  go_enter Tryz.func43,Tryz.ntmps43
  go_wp2_with(first
   |(go_at_call 62;refine(HR.out _ HS.out).mono ?_;rintro e w1⟨rfl,d⟩;have HS1:Hid (Sn w0 W base g W.heap.size (n8 k m a b ng n sa sl sc (some ⟨kb,ko,none⟩) 1 cap) s w1):=d;obtain⟨x0,x1,x2,x3,x4,x5,x6,x7⟩:=Bk.c8 d.bk;obtain⟨k0,k1,k2,k3,k4,k5,k6,k7⟩:=d.kid HA.out hkb;clear d)
   |(go_at_call 63;refine(HTM.out _ HS1.out).mono ?_;rintro e w2⟨rfl,d⟩;have HS2:Hid (Sn w0 W base g W.heap.size (n8 k m a b ng n sa sl sc (some ⟨kb,ko,none⟩) 1 cap) s w2):=d;obtain⟨x0,x1,x2,x3,x4,x5,x6,x7⟩:=Bk.c8 d.bk;obtain⟨k0,k1,k2,k3,k4,k5,k6,k7⟩:=d.kid HA.out hkb;clear d)
   |(go_at_call 31;refine(HJ.out _ HS2.out).mono ?_;rintro e w3⟨rfl,d⟩;have HZ:Hid (Kt base W w3):=d;clear d))
  go_ret
  exact met_no (rfl) HZ.out
 |some s1=>
  simp only[Option.bind_some]
  have HJ:Hid (Cs w0 W base g (n8 k m a b ng n sa sl sc (some ⟨kb,ko,none⟩) 1 cap) s s1 31 #[.pointer (some ⟨g,0,none⟩),.agg #[.int .i64 kk,c1,c2,c3,c4,c5,c6,c7]] (.bool true)):=fun W' S=>Met.sn_ok (HI.out W' s S.cx) h1 S
  have hU:=modes_size m
  have HTX:Hid (∀W':World,Calls Tryz.prog 46 #[.int .i64 m,.slice (some ⟨W'.heap.size,0,none⟩) 3 3] (W'.alloc (.cells #[.string ByteArray.empty,.string ⟨#[63]⟩,.string ⟨#[43]⟩] 9)) fun e w'=>e=.returned (.string (textP m modeTexts))∧(W'.alloc (.cells #[.string ByteArray.empty,.string ⟨#[63]⟩,.string ⟨#[43]⟩] 9))=w'):=fun W'=>modes_any m W'
  generalize textP m modeTexts=U at*
  obtain⟨V,hV⟩:∃V,T++U=V:=⟨_,rfl⟩
  have hVs:V.size≤10:=by rw[←hV,ByteArray.size_append];omega
  rw[hV]
  have HP:Hid (Cp w0 W base g (n8 k m a b ng n sa sl sc (some ⟨kb,ko,none⟩) 1 cap) s1 32 #[.pointer (some ⟨g,0,none⟩),.string V] (putO s1 V)):=fun W' S=>Met.sn (put_met S.cx _ (by omega)) S
  generalize putO s1 V=P at*
  clear c h1 HI z hr
  go_enter Tryz.func43,Tryz.ntmps43
  go_wp2_with(first
   |(go_at_call 62;refine(HR.out _ HS.out).mono ?_;rintro e w1⟨rfl,d⟩;have HS1:Hid (Sn w0 W base g W.heap.size (n8 k m a b ng n sa sl sc (some ⟨kb,ko,none⟩) 1 cap) s w1):=d;obtain⟨x0,x1,x2,x3,x4,x5,x6,x7⟩:=Bk.c8 d.bk;obtain⟨k0,k1,k2,k3,k4,k5,k6,k7⟩:=d.kid HA.out hkb;clear d)
   |(go_at_call 63;refine(HTM.out _ HS1.out).mono ?_;rintro e w2⟨rfl,d⟩;have HS2:Hid (Sn w0 W base g W.heap.size (n8 k m a b ng n sa sl sc (some ⟨kb,ko,none⟩) 1 cap) s w2):=d;obtain⟨x0,x1,x2,x3,x4,x5,x6,x7⟩:=Bk.c8 d.bk;obtain⟨k0,k1,k2,k3,k4,k5,k6,k7⟩:=d.kid HA.out hkb;clear d)
   |(go_at_call 31;refine(HJ.out _ HS2.out).mono ?_;rintro e w3⟨rfl,d⟩;have HS3:Hid (Sn w0 W base g W.heap.size (n8 k m a b ng n sa sl sc (some ⟨kb,ko,none⟩) 1 cap) s1 w3):=d;obtain⟨x0,x1,x2,x3,x4,x5,x6,x7⟩:=Bk.c8 d.bk;clear d)
   |(go_at_call 46;refine(HTX.out _).mono ?_;rintro e w4⟨rfl,rfl⟩)
   |(go_at_call 32;refine(HP.out _ (HS3.out.quiet ((Below.refl _ w3).alloc (Nat.le_refl _) _))).mono ?_;rintro e w9⟨rfl,d1,d2⟩;have HT1:Hid (∀s',_=some s'→Cx w0 w9 base g s'):=d1;have HT2:Hid (Kt base W w9):=d2;clear d1 d2))
  go_ret
  exact⟨ret_bool (by first|rfl|simp),HT1.out,HT2.out⟩
end Go.Proofs.YtbbeciofgnkggaaGreatDoor.tre
