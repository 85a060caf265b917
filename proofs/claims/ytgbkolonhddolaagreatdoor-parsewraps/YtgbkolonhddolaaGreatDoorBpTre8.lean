import Derived.Test.YtgbkolonhddolaaGreatDoorBpTre3
import Derived.Shelf.Strconv.Itoa3
import Derived.Shelf.Slices.Turned
import Derived.Shelf.Strings.Builder1
import Derived.Shelf.Strings.Builder2
import Derived.Shelf.Strings.OnBuilder
import Derived.Shelf.Strings.Trim
import Derived.Shelf.Small.Utf8
import Derived.Shelf.Small.Strs
import Derived.Shelf.Strings.BuilderF
import Derived.Shelf.Strings.BuilderK
import Derived.Shelf.Strings.BuilderRune
import Derived.Shelf.Strconv.Itoa0
import Derived.Shelf.Strconv.Itoa1
import Derived.Shelf.LaysM
import Derived.Shelf.Strconv.Itoa2
import Derived.Shelf.Strconv.Itoa4
import Derived.Shelf.Strconv.Clone
import Derived.Shelf.Strings.Search1
import Derived.Shelf.Strings.Search2
import Derived.Shelf.Strings.Search3
import Derived.Shelf.Strings.Shaped
import Derived.Shelf.Strings.Prefix
import Derived.Shelf.Unicode.Latin
import Derived.Shelf.Strings.Runes
import Derived.Shelf.Strings.IndexAny
import Derived.Shelf.Strings.AsciiSet
import Derived.Shelf.Strings.IndexAnyAll
import Derived.Shelf.Unicode.DecodeSlow
import Derived.Shelf.Unicode.DecodeAny
import Derived.Shelf.Unicode.CaseLookup
import Derived.Shelf.Unicode.CaseConvert
import Derived.Shelf.Unicode.CaseTo
import Derived.Shelf.Unicode.CaseLaid
import Derived.Shelf.Strings.MapAny
import Derived.Shelf.Strings.CaseAny
import Derived.Test.YtgbkolonhddolaaGreatDoorProg
import Derived.Test.YtgbkolonhddolaaGreatDoorBpTre2
import Derived.Lib.ItoaMem
set_option linter.unusedSimpArgs false
set_option linter.unusedVariables false
set_option maxRecDepth 10000
set_option maxHeartbeats 4000000
theorem Go.Proofs.YtgbkolonhddolaaGreatDoor.hd46{p:Prop}(h:p):Go.RowKit.Hid p:=h
namespace Go.Proofs.YtgbkolonhddolaaGreatDoor.tre
open Go.RowKit nod
open rng(R RV aH ag below_drewN info_parts own_below')
open tok(PEnv TX ak)
theorem qK{w0 W:World}{base g:Nat}{s:Wr}(c:Cx w0 W base g s)(m a b:Int)(ng:Bool)(n:ByteArray)(sa:Option Addr)(sl sc:Nat)(ao:Option Addr)(nk cap:Nat)(st:List R)(ks:List Nd)(hsl:st.length=sl)(hnk:ks.length=nk)(ho:othersZ (.mk 7 m a b ng n st ks)=false):Met 46 #[.pointer (some ⟨g,0,none⟩),.agg #[.int .i64 7,.int .i64 m,.int .i64 a,.int .i64 b,.bool ng,.string n,.slice sa sl sc,.slice ao nk cap]] w0 W base g (none):=by
 have HS:Hid (Sn w0 W base g W.heap.size #[.int .i64 7,.int .i64 m,.int .i64 a,.int .i64 b,.bool ng,.string n,.slice sa sl sc,.slice ao nk cap] s (W.alloc (.cells #[.int .i64 7,.int .i64 m,.int .i64 a,.int .i64 b,.bool ng,.string n,.slice sa sl sc,.slice ao nk cap] 26))):=Sn.start c _
 have HO:Hid (∀W',Sn w0 W base g W.heap.size #[.int .i64 7,.int .i64 m,.int .i64 a,.int .i64 b,.bool ng,.string n,.slice sa sl sc,.slice ao nk cap] s W'→Calls Tryz.prog 67 #[.agg #[.int .i64 7,.int .i64 m,.int .i64 a,.int .i64 b,.bool ng,.string n,.slice sa sl sc,.slice ao nk cap]] W' fun e w'=>e=.returned (.bool false)∧Sn w0 W base g W.heap.size #[.int .i64 7,.int .i64 m,.int .i64 a,.int .i64 b,.bool ng,.string n,.slice sa sl sc,.slice ao nk cap] s w'):=fun W' S=>dY S (7) (m) (a) (b) (ng) (n) st ks sa sl sc ao nk cap hsl hnk _ ho
 unfold Met
 clear c
 go_enter Tryz.func46,Tryz.ntmps46
 go_wp2_with(first
  |(go_at_call 67;refine(HO.out _ HS.out).mono ?_;rintro e w1⟨rfl,d⟩;have bV:=hd46 d;clear d))
 go_ret
 exact aA (rfl) bV.out.kt
theorem qf{w0 W:World}{base g:Nat}{s:Wr}(c:Cx w0 W base g s)(m a b:Int)(ng:Bool)(n:ByteArray)(sa:Option Addr)(sl sc:Nat)(ao:Option Addr)(nk cap:Nat)(st:List R)(ks:List Nd)(hsl:st.length=sl)(hnk:ks.length=nk)(ho:othersZ (.mk 7 m a b ng n st ks)=true)(h2:decide ((nk:Int)<2)=true)(h3:decide (nk<2)=true):Met 46 #[.pointer (some ⟨g,0,none⟩),.agg #[.int .i64 7,.int .i64 m,.int .i64 a,.int .i64 b,.bool ng,.string n,.slice sa sl sc,.slice ao nk cap]] w0 W base g (none):=by
 have HS:Hid (Sn w0 W base g W.heap.size #[.int .i64 7,.int .i64 m,.int .i64 a,.int .i64 b,.bool ng,.string n,.slice sa sl sc,.slice ao nk cap] s (W.alloc (.cells #[.int .i64 7,.int .i64 m,.int .i64 a,.int .i64 b,.bool ng,.string n,.slice sa sl sc,.slice ao nk cap] 26))):=Sn.start c _
 have HO:Hid (∀W',Sn w0 W base g W.heap.size #[.int .i64 7,.int .i64 m,.int .i64 a,.int .i64 b,.bool ng,.string n,.slice sa sl sc,.slice ao nk cap] s W'→Calls Tryz.prog 67 #[.agg #[.int .i64 7,.int .i64 m,.int .i64 a,.int .i64 b,.bool ng,.string n,.slice sa sl sc,.slice ao nk cap]] W' fun e w'=>e=.returned (.bool true)∧Sn w0 W base g W.heap.size #[.int .i64 7,.int .i64 m,.int .i64 a,.int .i64 b,.bool ng,.string n,.slice sa sl sc,.slice ao nk cap] s w'):=fun W' S=>dY S (7) (m) (a) (b) (ng) (n) st ks sa sl sc ao nk cap hsl hnk _ ho
 unfold Met
 clear c
 go_enter Tryz.func46,Tryz.ntmps46
 go_wp2_with(first
  |(go_at_call 67;refine(HO.out _ HS.out).mono ?_;rintro e w1⟨rfl,d⟩;have bV:=hd46 d;have x0:=d.bk.cell 0 (u:=.int .i64 7) rfl;have x1:=d.bk.cell 1 (u:=.int .i64 m) rfl;have x2:=d.bk.cell 2 (u:=.int .i64 a) rfl;have x3:=d.bk.cell 3 (u:=.int .i64 b) rfl;have x4:=d.bk.cell 4 (u:=.bool ng) rfl;have x5:=d.bk.cell 5 (u:=.string n) rfl;have x6:=d.bk.cell 6 (u:=.slice sa sl sc) rfl;have x7:=d.bk.cell 7 (u:=.slice ao nk cap) rfl;clear d))
 go_ret
 exact aA (rfl) bV.out.kt
theorem tT{w0 W:World}{base g:Nat}{s:Wr}(c:Cx w0 W base g s)(m a b:Int)(ng:Bool)(n:ByteArray)(sa:Option Addr)(sl sc:Nat)(ao:Option Addr)(nk cap:Nat)(st:List R)(ks:List Nd)(hsl:st.length=sl)(HL:Hid (ks.length=nk))(hcap:nk≤cap)(hbig:cap≤9223372036854775807)(uM:Hid (KV base w0 ao ks))(ho:othersZ (.mk 7 m a b ng n st ks)=true)(h2:2≤nk)(fq:Wr→Nd→Option Wr)(P:Option Wr)(HP0:Hid (∀x,ks[0]?=some x→P=(fq s x).bind (loopO (fun s t=>(aN s ⟨#[124]⟩).bind fun s1=>fq s1 t) (ks.drop 1))))(HF:Hid (∀t∈ks,∀W' s' v,Cx w0 W' base g s'→NV base w0 t v→Met 45 #[.pointer (some ⟨g,0,none⟩),v] w0 W' base g (fq s' t))):Met 46 #[.pointer (some ⟨g,0,none⟩),.agg #[.int .i64 7,.int .i64 m,.int .i64 a,.int .i64 b,.bool ng,.string n,.slice sa sl sc,.slice ao nk cap]] w0 W base g (P):=by
 have HS:Hid (Sn w0 W base g W.heap.size #[.int .i64 7,.int .i64 m,.int .i64 a,.int .i64 b,.bool ng,.string n,.slice sa sl sc,.slice ao nk cap] s (W.alloc (.cells #[.int .i64 7,.int .i64 m,.int .i64 a,.int .i64 b,.bool ng,.string n,.slice sa sl sc,.slice ao nk cap] 26))):=Sn.start c _
 have hnk:=HL.out
 have HO:Hid (∀W',Sn w0 W base g W.heap.size #[.int .i64 7,.int .i64 m,.int .i64 a,.int .i64 b,.bool ng,.string n,.slice sa sl sc,.slice ao nk cap] s W'→Calls Tryz.prog 67 #[.agg #[.int .i64 7,.int .i64 m,.int .i64 a,.int .i64 b,.bool ng,.string n,.slice sa sl sc,.slice ao nk cap]] W' fun e w'=>e=.returned (.bool true)∧Sn w0 W base g W.heap.size #[.int .i64 7,.int .i64 m,.int .i64 a,.int .i64 b,.bool ng,.string n,.slice sa sl sc,.slice ao nk cap] s w'):=fun W' S=>dY S (7) (m) (a) (b) (ng) (n) st ks sa sl sc ao nk cap hsl hnk _ ho
 unfold Met
 have f2:decide ((nk:Int)<2)=false:=decide_eq_false (by omega)
 have f3:decide (nk<2)=false:=decide_eq_false (by omega)
 clear c hnk
 obtain⟨fb,hfb⟩:∃fb:Wr→Nd→Option Wr,(fun s t=>(aN s ⟨#[124]⟩).bind fun s1=>fq s1 t)=fb:=⟨_,rfl⟩
 rw[hfb]at HP0
 have HFB:Hid (∀s t,fb s t=(aN s ⟨#[124]⟩).bind fun s1=>fq s1 t):=fun s t=>by rw[←hfb]
 clear hfb
 go_enter Tryz.func46,Tryz.ntmps46
 go_wp2_with(first
  |(go_at_call 67;refine(HO.out _ HS.out).mono ?_;rintro e w1⟨rfl,d⟩;have bV:=hd46 d;have x0:=d.bk.cell 0 (u:=.int .i64 7) rfl;have x1:=d.bk.cell 1 (u:=.int .i64 m) rfl;have x2:=d.bk.cell 2 (u:=.int .i64 a) rfl;have x3:=d.bk.cell 3 (u:=.int .i64 b) rfl;have x4:=d.bk.cell 4 (u:=.bool ng) rfl;have x5:=d.bk.cell 5 (u:=.string n) rfl;have x6:=d.bk.cell 6 (u:=.slice sa sl sc) rfl;have x7:=d.bk.cell 7 (u:=.slice ao nk cap) rfl;have HST:Hid (Cx w0 w1 base g s∧Kt base W w1):=⟨d.cx,d.kt⟩;clear d))
 go_loopw[19](fun i wr=>∃(j:Nat)(sj:Wr),j≤nk∧i=.int .i64 j∧Hid ((j=0∧sj=s)∨(0<j∧P=loopO fb (ks.drop j) sj))∧Hid (Cx w0 wr base g sj)∧Hid (Kt base W wr))(fun i _=>nk-(intOf i).toNat)
 case atStart=>exact⟨0,s,by omega,rfl,.inl ⟨rfl,rfl⟩,HST.out.1,HST.out.2⟩
 case round=>
  obtain⟨j,sj,hj,rfl,HJ,kN,yD⟩:=hrel
  clear HST HS bV
  by_cases hlt:j<nk
  ·obtain⟨t,ht⟩:=C8 HL.out hlt
   obtain⟨bb,off,rfl,hka⟩:=uM.out.some (by have:=HL.out;omega)
   obtain⟨k',m',a',b',g',n',s',kk,sa',A7,tQ,cap',rfl,⟨e0,e1,e2,e3,e4,e5,e6,e7⟩,hv'⟩:=hka.kid ht
   have hbb:=hka.1
   have bl:=kN.out.c.bel
   have d0:=(bl.cell (p:=⟨bb,off+j*8,none⟩) hbb).trans e0
   have d1:=(bl.cell (p:=⟨bb,off+j*8+1,none⟩) hbb).trans e1
   have d2:=(bl.cell (p:=⟨bb,off+j*8+2,none⟩) hbb).trans e2
   have d3:=(bl.cell (p:=⟨bb,off+j*8+3,none⟩) hbb).trans e3
   have d4:=(bl.cell (p:=⟨bb,off+j*8+4,none⟩) hbb).trans e4
   have d5:=(bl.cell (p:=⟨bb,off+j*8+5,none⟩) hbb).trans e5
   have d6:=(bl.cell (p:=⟨bb,off+j*8+6,none⟩) hbb).trans e6
   have d7:=(bl.cell (p:=⟨bb,off+j*8+7,none⟩) hbb).trans e7
   clear e0 e1 e2 e3 e4 e5 e6 e7
   have hmem:=List.mem_of_getElem? ht
   generalize s'.length=sl' at*
   generalize kk.length=si at*
   obtain⟨T,hTT⟩:∃T,Nd.mk k' m' a' b' g' n' s' kk=T:=⟨_,rfl⟩
   rw[hTT]at ht hmem hv'
   clear hTT
   have HW1:Hid (Cx w0 (wr.alloc (.cells #[.int .i64 k',.int .i64 m',.int .i64 a',.int .i64 b',.bool g',.string n',.slice sa' sl' A7,.slice tQ si cap'] 26)) base g sj):=kN.out.on ((Below.refl _ wr).alloc (Nat.le_refl _) _)
   have oU:Hid (Kt base W (wr.alloc (.cells #[.int .i64 k',.int .i64 m',.int .i64 a',.int .i64 b',.bool g',.string n',.slice sa' sl' A7,.slice tQ si cap'] 26))):=yD.out.trans (kN.out.kt ((Below.refl _ wr).alloc (Nat.le_refl _) _))
   have hsz:=kN.out.c.size
   have CM:Hid (∀W' s',Cx w0 W' base g s'→Met 45 #[.pointer (some ⟨g,0,none⟩),.agg #[.int .i64 k',.int .i64 m',.int .i64 a',.int .i64 b',.bool g',.string n',.slice sa' sl' A7,.slice tQ si cap']] w0 W' base g (fq s' T)):=fun W' s' c'=>HF.out T hmem W' s' _ c' hv'
   by_cases z:j=0
   ·have f0:decide (0<(j:Int))=false:=decide_eq_false (by omega)
    have f0':decide (0<j)=false:=decide_eq_false (by omega)
    have hsj:sj=s:=by rcases HJ.out with h|h;exact h.2;omega
    have HDR:Hid (P=(fq sj T).bind (loopO fb (ks.drop (j+1)))):=by unfold Hid;rw[hsj,show j+1=1 by omega];exact HP0.out T (by rw[←z];exact ht)
    cases hP:fq sj T with
    |none=>
     have C:=(CM.out _ sj HW1.out).no hP
     have HE:Hid (P=none):=by unfold Hid;rw[HDR.out,hP];rfl
     clear HJ kN yD uM HF hka hv' hmem ht bl CM HDR hP HW1 HP0 hsj z
     go_wp2_with(go_at_call 45;refine C.mono ?_;rintro e w2⟨rfl,d⟩;have HZ:Hid (Kt base W w2):=oU.out.trans d;clear d)
     go_ret
     exact aA HE.out HZ.out
    |some s2=>
     have C:=(CM.out _ sj HW1.out).ok hP
     have HE:Hid (P=loopO fb (ks.drop (j+1)) s2):=by unfold Hid;rw[HDR.out,hP];rfl
     clear HJ kN yD uM HF hka hv' hmem ht bl CM HDR hP HW1 HP0 hsj z
     go_wp2_with(go_at_call 45;refine C.mono ?_;rintro e w2⟨rfl,d,d'⟩;have uN:Hid (Cx w0 w2 base g s2):=d;have HZ:Hid (Kt base W w2):=oU.out.trans d';clear d d')
     go_roundw
     case rel=>exact⟨j+1,s2,by omega,by go_num,.inr ⟨by omega,HE.out⟩,uN,HZ⟩
     case measure=>simp[intOf];omega
   ·have f0:decide (0<(j:Int))=true:=decide_eq_true (by omega)
    have f0':decide (0<j)=true:=decide_eq_true (by omega)
    have HPJ:Hid (P=loopO fb (ks.drop j) sj):=by rcases HJ.out with h|h;omega;exact h.2
    have HDR:Hid (P=((aN sj ⟨#[124]⟩).bind fun s1=>fq s1 T).bind (loopO fb (ks.drop (j+1)))):=by unfold Hid;rw[HPJ.out,Le ht,loopO,HFB.out]
    have HYB:Hid (Bk (wr.alloc (.cells #[.int .i64 k',.int .i64 m',.int .i64 a',.int .i64 b',.bool g',.string n',.slice sa' sl' A7,.slice tQ si cap'] 26)) wr.heap.size #[.int .i64 k',.int .i64 m',.int .i64 a',.int .i64 b',.bool g',.string n',.slice sa' sl' A7,.slice tQ si cap'] 26):=Bk.new wr _ _
    have PM:=dX HW1.out ⟨#[124]⟩ (by decide)
    cases hQ:aN sj ⟨#[124]⟩with
    |none=>
     have C:=PM.no hQ
     have HE:Hid (P=none):=by unfold Hid;rw[HDR.out,hQ];rfl
     clear HJ kN yD uM HF hka hv' hmem ht bl CM HDR hQ HW1 HP0 HPJ HYB PM z
     go_wp2_with(go_at_call 69;refine C.mono ?_;rintro e w2⟨rfl,d⟩;have HZ:Hid (Kt base W w2):=oU.out.trans d;clear d)
     go_ret
     exact aA HE.out HZ.out
    |some s1=>
     have CP:=PM.ok hQ
     cases hP:fq s1 T with
     |none=>
      have C:Hid (∀W',Cx w0 W' base g s1→_):=fun W' c'=>(CM.out W' s1 c').no hP
      have HE:Hid (P=none):=by unfold Hid;rw[HDR.out,hQ];simp only[Option.bind_some];rw[hP];rfl
      clear HJ kN yD uM HF hka hv' hmem ht bl CM HDR hQ HW1 HP0 HPJ PM z hP
      go_wp2_with(first
       |(go_at_call 69;refine CP.mono ?_;rintro e w2⟨rfl,d,d'⟩;have uN:Hid (Cx w0 w2 base g s1):=d;have ui:Hid (Kt base W w2):=oU.out.trans d';have YB:=Bk.kt HYB.out d' iV.1 iV.2.1 iV.2.2;have y0:=YB.cell 0 (u:=Value.int .i64 k') rfl;have y1:=YB.cell 1 (u:=Value.int .i64 m') rfl;have y2:=YB.cell 2 (u:=Value.int .i64 a') rfl;have y3:=YB.cell 3 (u:=Value.int .i64 b') rfl;have y4:=YB.cell 4 (u:=Value.bool g') rfl;have y5:=YB.cell 5 (u:=Value.string n') rfl;have y6:=YB.cell 6 (u:=Value.slice sa' sl' A7) rfl;have y7:=YB.cell 7 (u:=Value.slice tQ si cap') rfl;clear d d' YB)
       |(go_at_call 45;refine(C.out _ uN.out).mono ?_;rintro e w3⟨rfl,d⟩;have HZ:Hid (Kt base W w3):=ui.out.trans d;clear d))
      go_ret
      exact aA HE.out HZ.out
     |some s2=>
      have C:Hid (∀W',Cx w0 W' base g s1→_):=fun W' c'=>(CM.out W' s1 c').ok hP
      have HE:Hid (P=loopO fb (ks.drop (j+1)) s2):=by unfold Hid;rw[HDR.out,hQ];simp only[Option.bind_some];rw[hP];rfl
      clear HJ kN yD uM HF hka hv' hmem ht bl CM HDR hQ HW1 HP0 HPJ PM z hP
      go_wp2_with(first
       |(go_at_call 69;refine CP.mono ?_;rintro e w2⟨rfl,d,d'⟩;have uN:Hid (Cx w0 w2 base g s1):=d;have ui:Hid (Kt base W w2):=oU.out.trans d';have YB:=Bk.kt HYB.out d' iV.1 iV.2.1 iV.2.2;have y0:=YB.cell 0 (u:=Value.int .i64 k') rfl;have y1:=YB.cell 1 (u:=Value.int .i64 m') rfl;have y2:=YB.cell 2 (u:=Value.int .i64 a') rfl;have y3:=YB.cell 3 (u:=Value.int .i64 b') rfl;have y4:=YB.cell 4 (u:=Value.bool g') rfl;have y5:=YB.cell 5 (u:=Value.string n') rfl;have y6:=YB.cell 6 (u:=Value.slice sa' sl' A7) rfl;have y7:=YB.cell 7 (u:=Value.slice tQ si cap') rfl;clear d d' YB)
       |(go_at_call 45;refine(C.out _ uN.out).mono ?_;rintro e w3⟨rfl,d,d'⟩;have HC3:Hid (Cx w0 w3 base g s2):=d;have HZ:Hid (Kt base W w3):=ui.out.trans d';clear d d'))
      go_roundw
      case rel=>exact⟨j+1,s2,by omega,by go_num,.inr ⟨by omega,HE.out⟩,HC3,HZ⟩
      case measure=>simp[intOf];omega
  ·have HE:Hid (P=some sj):=by
    unfold Hid
    rcases HJ.out with h|h
    ·omega
    ·rw[h.2,List.drop_of_length_le (by have:=HL.out;omega),loopO]
   clear HJ uM HF HP0
   go_wp2
   go_ret
   exact Cm HE.out kN.out yD.out
end Go.Proofs.YtgbkolonhddolaaGreatDoor.tre
namespace Go.Proofs
open Go.Shelf
def Tryz.laysM171_ren:Go.Shelf.Ren:=⟨fun|171=>93|243=>119|246=>134|283=>153|284=>154|285=>155|286=>156|129=>170|317=>169|318=>171|319=>172|320=>173|337=>182|338=>183|n=>n,fun|3=>3|9=>9|2=>2|4=>4|171=>178|0=>0|53=>179|37=>22|5=>5|173=>182|212=>191|51=>192|20=>20|213=>193|46=>111|232=>211|233=>212|n=>n,fun|17=>3|18=>6|19=>7|n=>n⟩
theorem Tryz.laysM171:Go.Proofs.LaysM.n171 Tryz.prog Tryz.laysM171_ren:={
 mixed:=by kernel_rfl
 f129:=Tryz.func170.trans (congrArg some (by kernel_rfl))
 f171:=Tryz.func93.trans (congrArg some (by kernel_rfl))
 f243:=Tryz.func119.trans (congrArg some (by kernel_rfl))
 f246:=Tryz.func134.trans (congrArg some (by kernel_rfl))
 f283:=Tryz.func153.trans (congrArg some (by kernel_rfl))
 f284:=Tryz.func154.trans (congrArg some (by kernel_rfl))
 f285:=Tryz.func155.trans (congrArg some (by kernel_rfl))
 f286:=Tryz.func156.trans (congrArg some (by kernel_rfl))
 f317:=Tryz.func169.trans (congrArg some (by kernel_rfl))
 f318:=Tryz.func171.trans (congrArg some (by kernel_rfl))
 f319:=Tryz.func172.trans (congrArg some (by kernel_rfl))
 f320:=Tryz.func173.trans (congrArg some (by kernel_rfl))
 f337:=Tryz.func182.trans (congrArg some (by kernel_rfl))
 f338:=Tryz.func183.trans (congrArg some (by kernel_rfl))
 t0:=Tryz.underlying0
 a0:=Tryz.isAgg0
 z0:=Tryz.sizeOf0
 v0:=Tryz.zeroValue0
 t2:=Tryz.underlying2
 a2:=Tryz.isAgg2
 z2:=Tryz.sizeOf2
 v2:=Tryz.zeroValue2
 t3:=Tryz.underlying3
 a3:=Tryz.isAgg3
 z3:=Tryz.sizeOf3
 v3:=Tryz.zeroValue3
 t4:=Tryz.underlying4
 a4:=Tryz.isAgg4
 z4:=Tryz.sizeOf4
 v4:=Tryz.zeroValue4
 t5:=Tryz.underlying5
 a5:=Tryz.isAgg5
 z5:=Tryz.sizeOf5
 v5:=Tryz.zeroValue5
 t9:=Tryz.underlying9
 a9:=Tryz.isAgg9
 z9:=Tryz.sizeOf9
 v9:=Tryz.zeroValue9
 t20:=Tryz.underlying20
 a20:=Tryz.isAgg20
 z20:=Tryz.sizeOf20
 v20:=Tryz.zeroValue20
 t37:=Tryz.underlying22
 a37:=Tryz.isAgg22
 z37:=Tryz.sizeOf22
 v37:=Tryz.zeroValue22
 t46:=Tryz.underlying111
 a46:=Tryz.isAgg111
 z46:=Tryz.sizeOf111
 v46:=Tryz.zeroValue111
 t51:=Tryz.underlying192
 a51:=Tryz.isAgg192
 z51:=Tryz.sizeOf192
 v51:=Tryz.zeroValue192
 t53:=Tryz.underlying179
 a53:=Tryz.isAgg179
 z53:=Tryz.sizeOf179
 v53:=Tryz.zeroValue179
 t171:=Tryz.underlying178
 a171:=Tryz.isAgg178
 z171:=Tryz.sizeOf178
 v171:=Tryz.zeroValue178
 t173:=Tryz.underlying182
 a173:=Tryz.isAgg182
 z173:=Tryz.sizeOf182
 v173:=Tryz.zeroValue182
 t212:=Tryz.underlying191
 a212:=Tryz.isAgg191
 z212:=Tryz.sizeOf191
 v212:=Tryz.zeroValue191
 t213:=Tryz.underlying193
 a213:=Tryz.isAgg193
 z213:=Tryz.sizeOf193
 t232:=Tryz.underlying211
 a232:=Tryz.isAgg211
 z232:=Tryz.sizeOf211
 v232:=Tryz.zeroValue211
 t233:=Tryz.underlying212
 a233:=Tryz.isAgg212
 z233:=Tryz.sizeOf212
 v233:=Tryz.zeroValue212
 g17:=by kernel_rfl
 g18:=by kernel_rfl
 g19:=by kernel_rfl
 i0:=by kernel_rfl
 i2:=by kernel_rfl
 i3:=by kernel_rfl
 i4:=by kernel_rfl
 i5:=by kernel_rfl
 i9:=by kernel_rfl
 i20:=by kernel_rfl
 i37:=by kernel_rfl
 i46:=by kernel_rfl
 i51:=by kernel_rfl
 i53:=by kernel_rfl
 i171:=by kernel_rfl
 i173:=by kernel_rfl
 i212:=by kernel_rfl
 i232:=by kernel_rfl
 i233:=by kernel_rfl
 m17:=by kernel_rfl
 m18:=by kernel_rfl
 m19:=by kernel_rfl}
open Go.RowKit Go.Sort Go.Lib in
theorem Tryz.strconv_Itoa(n:Int)(h0:-9223372036854775808≤n)(h1:n≤9223372036854775807)(w:World)(htab:Lib.TabIs Tryz.prog w "internal/strconv.uint64pow10" .u64 Lib.pow10Tab):
 Calls Tryz.prog 93 #[.int .i64 n] w fun e w'=>e=.returned (.string ⟨(Lib.itoa n).toArray⟩)∧∃k os,w'=grow (w.drewN k) os:=Any.strconv_Itoa Tryz.laysM171 n h0 h1 w htab
def Tryz.lays110_ren:Go.Shelf.Ren:=⟨fun|110=>40|109=>43|n=>n,fun|31=>62|9=>9|4=>4|3=>3|0=>0|n=>n,fun|n=>n⟩
theorem Tryz.lays110:Go.Proofs.Lays.n110 Tryz.prog Tryz.lays110_ren:={
 mixed:=by kernel_rfl
 f109:=Tryz.func43.trans (congrArg some (by kernel_rfl))
 f110:=Tryz.func40.trans (congrArg some (by kernel_rfl))
 t0:=Tryz.underlying0
 a0:=Tryz.isAgg0
 z0:=Tryz.sizeOf0
 v0:=Tryz.zeroValue0
 t3:=Tryz.underlying3
 a3:=Tryz.isAgg3
 z3:=Tryz.sizeOf3
 v3:=Tryz.zeroValue3
 t4:=Tryz.underlying4
 a4:=Tryz.isAgg4
 z4:=Tryz.sizeOf4
 v4:=Tryz.zeroValue4
 t9:=Tryz.underlying9
 a9:=Tryz.isAgg9
 z9:=Tryz.sizeOf9
 v9:=Tryz.zeroValue9
 t31:=Tryz.underlying62
 a31:=Tryz.isAgg62
 z31:=Tryz.sizeOf62
 v31:=Tryz.zeroValue62}
open Go.Lib in
theorem Tryz.slices_Contains_string(b off n c:Nat)(zs:List ByteArray)(x:ByteArray)(w:World)(hz:n≤zs.length)(hbig:n≤9223372036854775807)(hc:∀j,j<zs.length→w.cell? ⟨b,off+j,none⟩=some (.string (zs.getD j ByteArray.empty))):
 Calls Tryz.prog 40 #[.slice (some ⟨b,off,none⟩) n c,.string x] w fun e w'=>e=.returned (.bool (Lib.containsS (zs.take n) x))∧w'=w:=Any.slices_Contains_string Tryz.lays110 b off n c zs x w hz hbig hc
open Go.Lib in
theorem Tryz.slices_Contains_string_empty(a:Option Addr)(c:Nat)(x:ByteArray)(w:World):
 Calls Tryz.prog 40 #[.slice a 0 c,.string x] w fun e w'=>e=.returned (.bool false)∧w'=w:=Any.slices_Contains_string_empty Tryz.lays110 a c x w
end Go.Proofs
namespace Go.Proofs.YtgbkolonhddolaaGreatDoor.tre
open Go.RowKit nod
open rng(R RV aH ag below_drewN info_parts own_below')
open tok(PEnv TX ak)
/--The table of powers of ten. -/
def Pw(w:World):Prop:=Lib.TabIs Tryz.prog w "internal/strconv.uint64pow10" .u64 Lib.pow10Tab
theorem Pw.on{w w':World}(h:Pw w)(hb:Below w.heap.size w w'):Pw w':=by
 unfold Pw Lib.TabIs World.var? at*
 cases hg:Tryz.prog.globalNamed "internal/strconv.uint64pow10"with
 |none=>simp[hg]at h
 |some g=>
  simp only[hg,Option.bind_some]at h⊢
  have hlt:g<w.heap.size:=by
   rcases Nat.lt_or_ge g w.heap.size with h'|h'
   ·exact h'
   ·rw[Array.getElem?_eq_none h']at h;simp at h
  rw[hb.block g hlt]
  exact h
theorem lG(n:Int)(h:dQ n)(w:World)(E:Pw w):Calls Tryz.prog 93 #[.int .i64 n] w fun e w'=>e=.returned (.string (dec n))∧Below w.heap.size w w':=
 (Tryz.strconv_Itoa n h.1 h.2 w E).mono fun e w'⟨h1,k,os,h2⟩=>⟨h1,by
  rw[h2]
  exact⟨rfl,rfl,rfl,by show w.heap.size≤(w.heap++os).size;rw[Array.size_append];omega,fun j hj=>by show(w.heap++os)[j]?=_;rw[Array.getElem?_append_left hj]⟩⟩
theorem ja(n:Int)(h0:0≤n)(h1:n≤100):(dec n).size≤3:=by
 obtain⟨k,rfl⟩:∃k:Nat,n=k:=⟨n.toNat,by omega⟩
 have key:∀k:Fin 101,(dec (k.val:Int)).size≤3:=by decide+kernel
 exact key ⟨k,by omega⟩
theorem Fh(a b:Int)(ha:dQ a)(hb:dQ b)(w:World)(E:Pw w):Calls Tryz.prog 118 #[.int .i64 a,.int .i64 b] w fun e w'=>e=.returned (.string (bF a b))∧Below w.heap.size w w':=by
 have s1:ByteArray.size ⟨#[123]⟩=1:=rfl
 have s2:ByteArray.size ⟨#[125]⟩=1:=rfl
 have s3:ByteArray.size ⟨#[44,125]⟩=2:=rfl
 have s4:ByteArray.size ⟨#[44]⟩=1:=rfl
 have HR:Hid (Below w.heap.size w w):=Below.refl _ w
 by_cases c0:a<0
 ·have HE:Hid (bF a b=ByteArray.empty):=by unfold Hid bF;rw[if_pos (.inl c0)]
  have f0:decide (a<0)=true:=decide_eq_true c0
  rw[HE.out]
  clear HE
  go_enter Tryz.func118,Tryz.ntmps118
  go_wp2
  all_goals(go_ret;exact⟨rfl,HR.out⟩)
 have f0:decide (a<0)=false:=decide_eq_false c0
 obtain⟨M,hM⟩:∃M,(if a<b then b else a)=M:=⟨_,rfl⟩
 have hMm:max a b=M:=by rw[←hM];split<;>omega
 by_cases c1:b=-1
 ·subst c1
  have hM2:M=a:=by omega
  subst hM2
  by_cases c2:100<M
  ·have HE:Hid (bF M (-1)=ByteArray.empty):=by unfold Hid bF;rw[if_pos (.inr (.inr (by omega)))]
   have f2:decide (100<M)=true:=decide_eq_true c2
   rw[HE.out]
   clear HE hM
   go_enter Tryz.func118,Tryz.ntmps118
   go_wp2
   go_ret
   exact⟨rfl,HR.out⟩
  have f2:decide (100<M)=false:=decide_eq_false c2
  have n0:¬(M<0∨((-1:Int)≠-1∧(-1:Int)<M)∨100<max M (-1)):=by omega
  by_cases c3:M=0
  ·subst c3
   have HE:Hid (bF 0 (-1)=⟨#[42]⟩):=by unfold Hid;decide
   rw[HE.out]
   clear HE hM n0
   go_enter Tryz.func118,Tryz.ntmps118
   go_wp2
   go_ret
   exact⟨rfl,HR.out⟩
  by_cases c4:M=1
  ·subst c4
   have HE:Hid (bF 1 (-1)=⟨#[43]⟩):=by unfold Hid;decide
   rw[HE.out]
   clear HE hM n0
   go_enter Tryz.func118,Tryz.ntmps118
   go_wp2
   go_ret
   exact⟨rfl,HR.out⟩
  have HE:Hid (bF M (-1)=(⟨#[123]⟩++dec M)++⟨#[44,125]⟩):=by
   unfold Hid bF;rw[if_neg n0,if_neg (by omega),if_neg (by omega),if_neg (by omega),if_neg (by omega),if_pos rfl]
  rw[HE.out]
  have hd:=ja M (by omega) (by omega)
  have C:=lG M ha w E
  obtain⟨X,hX⟩:∃X,dec M=X:=⟨_,rfl⟩
  rw[hX]at C hd⊢
  obtain⟨Y,hY⟩:∃Y,(⟨#[123]⟩:ByteArray)++X=Y:=⟨_,rfl⟩
  have d1:Y.size=X.size+1:=by rw[←hY,ByteArray.size_append,s1];omega
  rw[hY]
  have f3:(M==0)=false:=by simpa using c3
  have f4:(M==1)=false:=by simpa using c4
  have f5:(M==-1)=false:=by simp;omega
  clear HE hM n0 hX
  go_enter Tryz.func118,Tryz.ntmps118
  go_wp2_with(go_at_call 93;refine C.mono ?_;rintro e w1⟨rfl,d⟩;have HW:Hid (Below w.heap.size w w1):=d;clear d)
  go_ret
  exact⟨rfl,HW.out⟩
 have f1:(b==-1)=false:=by simpa using c1
 by_cases c2:b<a
 ·have HE:Hid (bF a b=ByteArray.empty):=by unfold Hid bF;rw[if_pos (.inr (.inl ⟨c1,c2⟩))]
  have f2:decide (b<a)=true:=decide_eq_true c2
  rw[HE.out]
  clear HE hMm hM
  go_enter Tryz.func118,Tryz.ntmps118
  go_wp2
  all_goals(go_ret;exact⟨rfl,HR.out⟩)
 have f2:decide (b<a)=false:=decide_eq_false c2
 by_cases c3:100<M
 ·have HE:Hid (bF a b=ByteArray.empty):=by unfold Hid bF;rw[if_pos (.inr (.inr (by omega)))]
  have f3:decide (100<M)=true:=decide_eq_true c3
  rw[HE.out]
  clear HE hM
  go_enter Tryz.func118,Tryz.ntmps118
  go_wp2
  all_goals(go_ret;exact⟨rfl,HR.out⟩)
 have f3:decide (100<M)=false:=decide_eq_false c3
 have n0:¬(a<0∨(b≠-1∧b<a)∨100<max a b):=by omega
 have HMM:Hid (M=b):=by unfold Hid;omega
 by_cases c4:a=b
 ·subst c4
  have HE:Hid (bF a a=(⟨#[123]⟩++dec a)++⟨#[125]⟩):=by
   unfold Hid bF;rw[if_neg n0,if_neg (by omega),if_neg (by omega),if_neg (by omega),if_pos rfl]
  rw[HE.out]
  have hd:=ja a (by omega) (by omega)
  have C:=lG a ha w E
  obtain⟨X,hX⟩:∃X,dec a=X:=⟨_,rfl⟩
  rw[hX]at C hd⊢
  obtain⟨Y,hY⟩:∃Y,(⟨#[123]⟩:ByteArray)++X=Y:=⟨_,rfl⟩
  have d1:Y.size=X.size+1:=by rw[←hY,ByteArray.size_append,s1];omega
  rw[hY]
  clear HE hM n0 hX HMM
  by_cases z:a=0
  ·subst z
   go_enter Tryz.func118,Tryz.ntmps118
   go_wp2_with(go_at_call 93;refine C.mono ?_;rintro e w1⟨rfl,d⟩;have HW:Hid (Below w.heap.size w w1):=d;clear d)
   go_ret
   exact⟨rfl,HW.out⟩
  by_cases z1:a=1
  ·subst z1
   go_enter Tryz.func118,Tryz.ntmps118
   go_wp2_with(go_at_call 93;refine C.mono ?_;rintro e w1⟨rfl,d⟩;have HW:Hid (Below w.heap.size w w1):=d;clear d)
   go_ret
   exact⟨rfl,HW.out⟩
  have g0:(a==0)=false:=by simpa using z
  have g1:(a==1)=false:=by simpa using z1
  clear z1
  go_enter Tryz.func118,Tryz.ntmps118
  go_wp2_with(go_at_call 93;refine C.mono ?_;rintro e w1⟨rfl,d⟩;have HW:Hid (Below w.heap.size w w1):=d;clear d)
  go_ret
  exact⟨rfl,HW.out⟩
 by_cases c5:a=0∧b=1
 ·obtain⟨rfl,rfl⟩:=c5
  have HE:Hid (bF 0 1=⟨#[63]⟩):=by unfold Hid;decide
  rw[HE.out]
  clear HE hM n0 HMM
  go_enter Tryz.func118,Tryz.ntmps118
  go_wp2
  go_ret
  exact⟨rfl,HR.out⟩
 have HE:Hid (bF a b=(((⟨#[123]⟩++dec a)++⟨#[44]⟩)++dec b)++⟨#[125]⟩):=by
  unfold Hid bF;rw[if_neg n0,if_neg (by omega),if_neg (by omega),if_neg c5,if_neg c4,if_neg c1]
 rw[HE.out]
 have hd:=ja a (by omega) (by omega)
 have hd2:=ja b (by have:=HMM.out;omega) (by have:=HMM.out;omega)
 have C:=lG a ha w E
 have C2:Hid (∀W,Below w.heap.size w W→Calls Tryz.prog 93 #[.int .i64 b] W fun e w'=>e=.returned (.string (dec b))∧Below w.heap.size w w'):=fun W h=>(lG b hb W (E.on h)).mono fun e w'⟨h1,h2⟩=>⟨h1,h.trans (ae h2 h.size)⟩
 obtain⟨X,hX⟩:∃X,dec a=X:=⟨_,rfl⟩
 rw[hX]at C hd⊢
 obtain⟨Z,hZ⟩:∃Z,dec b=Z:=⟨_,rfl⟩
 rw[hZ]at C2 hd2⊢
 obtain⟨Y,hY⟩:∃Y,(⟨#[123]⟩:ByteArray)++X=Y:=⟨_,rfl⟩
 have d1:Y.size=X.size+1:=by rw[←hY,ByteArray.size_append,s1];omega
 rw[hY]
 obtain⟨Y2,hY2⟩:∃Y2,Y++(⟨#[44]⟩:ByteArray)=Y2:=⟨_,rfl⟩
 have d2:Y2.size=X.size+2:=by rw[←hY2,ByteArray.size_append,s4];omega
 rw[hY2]
 obtain⟨Y3,hY3⟩:∃Y3,Y2++Z=Y3:=⟨_,rfl⟩
 have d3:Y3.size=X.size+2+Z.size:=by rw[←hY3,ByteArray.size_append];omega
 rw[hY3]
 have f4:(a==b)=false:=by simpa using c4
 have f5:((a==0)&&(b==1))=false:=by simpa using c5
 by_cases z:a=0
 ·subst z
  have g1:(b==1)=false:=by simpa using c5
  clear HE hM n0 hX hZ HMM f5
  go_enter Tryz.func118,Tryz.ntmps118
  go_wp2_with(first|(go_at_call_of 93(Value.int IntKind.i64 0);refine C.mono ?_;rintro e w1⟨rfl,d⟩;have HW:Hid (Below w.heap.size w w1):=d;clear d)|(go_at_call 93;refine(C2.out _ HW.out).mono ?_;rintro e w2⟨rfl,d⟩;have HW2:Hid (Below w.heap.size w w2):=d;clear d))
  go_ret
  exact⟨rfl,HW2.out⟩
 have g0:(a==0)=false:=by simpa using z
 by_cases z1:a=1
 ·subst z1
  clear HE hM n0 hX hZ HMM f5
  go_enter Tryz.func118,Tryz.ntmps118
  go_wp2_with(first|(go_at_call_of 93(Value.int IntKind.i64 1);refine C.mono ?_;rintro e w1⟨rfl,d⟩;have HW:Hid (Below w.heap.size w w1):=d;clear d)|(go_at_call 93;refine(C2.out _ HW.out).mono ?_;rintro e w2⟨rfl,d⟩;have HW2:Hid (Below w.heap.size w w2):=d;clear d))
  go_ret
  exact⟨rfl,HW2.out⟩
 have g1:(a==1)=false:=by simpa using z1
 clear HE hM n0 hX hZ HMM f5
 go_enter Tryz.func118,Tryz.ntmps118
 go_wp2_with(first|(go_at_call_of 93(Value.int IntKind.i64 a);refine C.mono ?_;rintro e w1⟨rfl,d⟩;have HW:Hid (Below w.heap.size w w1):=d;clear d)|(go_at_call 93;refine(C2.out _ HW.out).mono ?_;rintro e w2⟨rfl,d⟩;have HW2:Hid (Below w.heap.size w w2):=d;clear d))
 go_ret
 exact⟨rfl,HW2.out⟩
end Go.Proofs.YtgbkolonhddolaaGreatDoor.tre
