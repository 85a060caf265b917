import Derived.Test.YtgbkolonhddolaaGreatDoorBpTre3
set_option linter.unusedSimpArgs false
set_option linter.unusedVariables false
set_option maxRecDepth 10000
set_option maxHeartbeats 2000000
theorem Go.Proofs.YtgbkolonhddolaaGreatDoor.KJ{p:Prop}(h:p):Go.RowKit.Hid p:=h
namespace Go.Proofs.YtgbkolonhddolaaGreatDoor.tre
open Go.RowKit nod
open rng(R RV aH ag below_drewN info_parts own_below')
open tok(PEnv TX ak)
theorem vG{w0 W:World}{base g:Nat}{s:Wr}(c:Cx w0 W base g s)(ao:Option Addr)(nk cap:Nat)(ks:List Nd)(HL:Hid (ks.length=nk))(hcap:nk≤cap)(hbig:cap≤9223372036854775807)(uM:Hid (KV base w0 ao ks))(fm:Wr→Nd→Option Wr)(HF:Hid (∀t∈ks,∀W' s' v,Cx w0 W' base g s'→NV base w0 t v→Met 158 #[.pointer (some ⟨g,0,none⟩),v] w0 W' base g (fm s' t))):Met 136 #[.pointer (some ⟨g,0,none⟩),.slice ao nk cap] w0 W base g (if nk=0 then none else loopO fm ks s):=by
 have HST:Hid (Cx w0 W base g s∧Kt base W W):=⟨c,Kt.refl _ _⟩
 have hgs:=c.c.wr.lt
 unfold Met
 obtain⟨P,hP⟩:∃P,(if nk=0 then none else loopO fm ks s)=P:=⟨_,rfl⟩
 rw[hP]
 have ru:Hid (0<nk→loopO fm ks s=none→P=none):=fun h e=>by rw[←hP,if_neg (by omega),e]
 have Mi:Hid (∀s',0<nk→loopO fm ks s=some s'→P=some s'):=fun s' h e=>by rw[←hP,if_neg (by omega),e]
 have HZE:Hid (nk=0→P=none):=fun h=>by rw[←hP,if_pos h]
 clear c hP
 go_enter Tryz.func136,Tryz.ntmps136
 go_wp2
 go_loopw[9](fun i wr=>∃(j:Nat)(sj:Wr),j≤nk∧i=.int .i64 j∧Hid (loopO fm ks s=loopO fm (ks.drop j) sj)∧Hid (Cx w0 wr base g sj)∧Hid (Kt base W wr))(fun i _=>nk-(intOf i).toNat)
 case atStart=>exact⟨0,s,by omega,rfl,rfl,HST.out.1,HST.out.2⟩
 case round=>
  obtain⟨j,sj,hj,rfl,HJ,kN,yD⟩:=hrel
  clear HST
  by_cases hlt:j<nk
  ·obtain⟨t,ht⟩:=C8 HL.out hlt
   obtain⟨bb,off,rfl,hka⟩:=uM.out.some (by have:=HL.out;omega)
   obtain⟨k',m',a',b',g',n',s',kk,sa',A7,tQ,cap',rfl,⟨e0,e1,e2,e3,e4,e5,e6,e7⟩,hv'⟩:=hka.kid ht
   have hbb:=hka.1
   have bl:=kN.out.c.bel
   have d0:=(bl.cell (p:=⟨bb,off+j*8,none⟩) hbb).trans e0
   have d1:=(bl.cell (p:=⟨bb,off+j*8+1,none⟩) hbb).trans e1
   have d2:=(bl.cell (p:=⟨bb,off+j*8+2,none⟩) hbb).trans e2
   have d3:=(bl.cell (p:=⟨bb,off+j*8+3,none⟩) hbb).trans e3
   have d4:=(bl.cell (p:=⟨bb,off+j*8+4,none⟩) hbb).trans e4
   have d5:=(bl.cell (p:=⟨bb,off+j*8+5,none⟩) hbb).trans e5
   have d6:=(bl.cell (p:=⟨bb,off+j*8+6,none⟩) hbb).trans e6
   have d7:=(bl.cell (p:=⟨bb,off+j*8+7,none⟩) hbb).trans e7
   clear e0 e1 e2 e3 e4 e5 e6 e7
   have hmem:=List.mem_of_getElem? ht
   generalize s'.length=sl' at*
   generalize kk.length=si at*
   obtain⟨T,hTT⟩:∃T,Nd.mk k' m' a' b' g' n' s' kk=T:=⟨_,rfl⟩
   rw[hTT]at ht hmem hv'
   clear hTT
   have HW1:Hid (Cx w0 (wr.alloc (.cells #[.int .i64 k',.int .i64 m',.int .i64 a',.int .i64 b',.bool g',.string n',.slice sa' sl' A7,.slice tQ si cap'] 26)) base g sj):=kN.out.on ((Below.refl _ wr).alloc (Nat.le_refl _) _)
   have oU:Hid (Kt base W (wr.alloc (.cells #[.int .i64 k',.int .i64 m',.int .i64 a',.int .i64 b',.bool g',.string n',.slice sa' sl' A7,.slice tQ si cap'] 26))):=yD.out.trans (kN.out.kt ((Below.refl _ wr).alloc (Nat.le_refl _) _))
   have hsz:=kN.out.c.size
   have CM:=HF.out T hmem _ sj _ HW1.out hv'
   have HDR:Hid (loopO fm ks s=(fm sj T).bind (loopO fm (ks.drop (j+1)))):=by unfold Hid;rw[HJ.out,Le ht,loopO]
   cases hP:fm sj T with
   |none=>
    have C:=CM.no hP
    have HE:Hid (loopO fm ks s=none):=by unfold Hid;rw[HDR.out,hP];rfl
    clear HJ kN yD uM HF hka hv' hmem ht bl CM HDR hP HW1
    go_wp2_with(go_at_call 158;refine C.mono ?_;rintro e w2⟨rfl,d⟩;have HZ:Hid (Kt base W w2):=oU.out.trans d;clear d)
    go_ret
    exact aA (ru.out (by omega) HE.out) HZ.out
   |some s2=>
    have C:=CM.ok hP
    have HE:Hid (loopO fm ks s=loopO fm (ks.drop (j+1)) s2):=by unfold Hid;rw[HDR.out,hP];rfl
    clear HJ kN yD uM HF hka hv' hmem ht bl CM HDR hP HW1
    go_wp2_with(go_at_call 158;refine C.mono ?_;rintro e w2⟨rfl,d,d'⟩;have uN:Hid (Cx w0 w2 base g s2):=d;have HZ:Hid (Kt base W w2):=oU.out.trans d';clear d d')
    go_roundw
    case rel=>exact⟨j+1,s2,by omega,by go_num,HE,uN,HZ⟩
    case measure=>simp[intOf];omega
  ·have HE:Hid (loopO fm ks s=some sj):=by unfold Hid;rw[HJ.out,List.drop_of_length_le (by have:=HL.out;omega),loopO]
   clear HJ uM HF
   by_cases z:nk=0
   ·subst z
    go_wp2
    go_ret
    exact aA (HZE.out (by trivial)) yD.out
   ·have z1:decide (0<(nk:Int))=true:=decide_eq_true (by omega)
    have z2:decide (0<nk)=true:=decide_eq_true (by omega)
    go_wp2
    go_ret
    exact Cm (Mi.out sj (by omega) HE.out) kN.out yD.out
theorem uw{w0 W:World}{base g:Nat}{s:Wr}(c:Cx w0 W base g s)(k m a b:Int)(ng:Bool)(n:ByteArray)(sa:Option Addr)(sl sc:Nat)(ao:Option Addr)(nk cap:Nat)(hk:¬k=6):Met 45 #[.pointer (some ⟨g,0,none⟩),.agg #[.int .i64 k,.int .i64 m,.int .i64 a,.int .i64 b,.bool ng,.string n,.slice sa sl sc,.slice ao nk cap]] w0 W base g (none):=by
 have HS:Hid (Sn w0 W base g W.heap.size #[.int .i64 k,.int .i64 m,.int .i64 a,.int .i64 b,.bool ng,.string n,.slice sa sl sc,.slice ao nk cap] s (W.alloc (.cells #[.int .i64 k,.int .i64 m,.int .i64 a,.int .i64 b,.bool ng,.string n,.slice sa sl sc,.slice ao nk cap] 26))):=Sn.start c _
 unfold Met
 clear c
 go_enter Tryz.func45,Tryz.ntmps45
 go_wp2
 go_ret
 exact aA (rfl) HS.out.kt
theorem yS{w0 W:World}{base g:Nat}{s:Wr}(c:Cx w0 W base g s)(m a b:Int)(ng:Bool)(n:ByteArray)(sa:Option Addr)(sl sc:Nat)(ao:Option Addr)(nk cap:Nat)(st:List R)(ks:List Nd)(hsl:st.length=sl)(hnk:ks.length=nk)(ho:othersZ (.mk 6 m a b ng n st ks)=false):Met 45 #[.pointer (some ⟨g,0,none⟩),.agg #[.int .i64 6,.int .i64 m,.int .i64 a,.int .i64 b,.bool ng,.string n,.slice sa sl sc,.slice ao nk cap]] w0 W base g (none):=by
 have HS:Hid (Sn w0 W base g W.heap.size #[.int .i64 6,.int .i64 m,.int .i64 a,.int .i64 b,.bool ng,.string n,.slice sa sl sc,.slice ao nk cap] s (W.alloc (.cells #[.int .i64 6,.int .i64 m,.int .i64 a,.int .i64 b,.bool ng,.string n,.slice sa sl sc,.slice ao nk cap] 26))):=Sn.start c _
 have HO:Hid (∀W',Sn w0 W base g W.heap.size #[.int .i64 6,.int .i64 m,.int .i64 a,.int .i64 b,.bool ng,.string n,.slice sa sl sc,.slice ao nk cap] s W'→Calls Tryz.prog 67 #[.agg #[.int .i64 6,.int .i64 m,.int .i64 a,.int .i64 b,.bool ng,.string n,.slice sa sl sc,.slice ao nk cap]] W' fun e w'=>e=.returned (.bool false)∧Sn w0 W base g W.heap.size #[.int .i64 6,.int .i64 m,.int .i64 a,.int .i64 b,.bool ng,.string n,.slice sa sl sc,.slice ao nk cap] s w'):=fun W' S=>dY S (6) (m) (a) (b) (ng) (n) st ks sa sl sc ao nk cap hsl hnk _ ho
 unfold Met
 clear c
 go_enter Tryz.func45,Tryz.ntmps45
 go_wp2_with(first
  |(go_at_call 67;refine(HO.out _ HS.out).mono ?_;rintro e w1⟨rfl,d⟩;have bV:=KJ d;clear d))
 go_ret
 exact aA (rfl) bV.out.kt
theorem BD{w0 W:World}{base g:Nat}{s:Wr}(c:Cx w0 W base g s)(m a b:Int)(ng:Bool)(n:ByteArray)(sa:Option Addr)(sl sc:Nat)(ao:Option Addr)(nk cap:Nat)(st:List R)(ks:List Nd)(hsl:st.length=sl)(HL:Hid (ks.length=nk))(hcap:nk≤cap)(hbig:cap≤9223372036854775807)(uM:Hid (KV base w0 ao ks))(ho:othersZ (.mk 6 m a b ng n st ks)=true)(fm:Wr→Nd→Option Wr)(HF:Hid (∀t∈ks,∀W' s' v,Cx w0 W' base g s'→NV base w0 t v→Met 68 #[.pointer (some ⟨g,0,none⟩),v] w0 W' base g (fm s' t))):Met 45 #[.pointer (some ⟨g,0,none⟩),.agg #[.int .i64 6,.int .i64 m,.int .i64 a,.int .i64 b,.bool ng,.string n,.slice sa sl sc,.slice ao nk cap]] w0 W base g (loopO fm ks s):=by
 have HS:Hid (Sn w0 W base g W.heap.size #[.int .i64 6,.int .i64 m,.int .i64 a,.int .i64 b,.bool ng,.string n,.slice sa sl sc,.slice ao nk cap] s (W.alloc (.cells #[.int .i64 6,.int .i64 m,.int .i64 a,.int .i64 b,.bool ng,.string n,.slice sa sl sc,.slice ao nk cap] 26))):=Sn.start c _
 have hnk:=HL.out
 have HO:Hid (∀W',Sn w0 W base g W.heap.size #[.int .i64 6,.int .i64 m,.int .i64 a,.int .i64 b,.bool ng,.string n,.slice sa sl sc,.slice ao nk cap] s W'→Calls Tryz.prog 67 #[.agg #[.int .i64 6,.int .i64 m,.int .i64 a,.int .i64 b,.bool ng,.string n,.slice sa sl sc,.slice ao nk cap]] W' fun e w'=>e=.returned (.bool true)∧Sn w0 W base g W.heap.size #[.int .i64 6,.int .i64 m,.int .i64 a,.int .i64 b,.bool ng,.string n,.slice sa sl sc,.slice ao nk cap] s w'):=fun W' S=>dY S (6) (m) (a) (b) (ng) (n) st ks sa sl sc ao nk cap hsl hnk _ ho
 unfold Met
 have ru:Hid (0<nk→loopO fm ks s=none→loopO fm ks s=none):=fun _ e=>e
 clear c hnk
 go_enter Tryz.func45,Tryz.ntmps45
 go_wp2_with(first
  |(go_at_call 67;refine(HO.out _ HS.out).mono ?_;rintro e w1⟨rfl,d⟩;have bV:=KJ d;have x0:=d.bk.cell 0 (u:=.int .i64 6) rfl;have x1:=d.bk.cell 1 (u:=.int .i64 m) rfl;have x2:=d.bk.cell 2 (u:=.int .i64 a) rfl;have x3:=d.bk.cell 3 (u:=.int .i64 b) rfl;have x4:=d.bk.cell 4 (u:=.bool ng) rfl;have x5:=d.bk.cell 5 (u:=.string n) rfl;have x6:=d.bk.cell 6 (u:=.slice sa sl sc) rfl;have x7:=d.bk.cell 7 (u:=.slice ao nk cap) rfl;have HST:Hid (Cx w0 w1 base g s∧Kt base W w1):=⟨d.cx,d.kt⟩;clear d))
 go_loopw[18](fun i wr=>∃(j:Nat)(sj:Wr),j≤nk∧i=.int .i64 j∧Hid (loopO fm ks s=loopO fm (ks.drop j) sj)∧Hid (Cx w0 wr base g sj)∧Hid (Kt base W wr))(fun i _=>nk-(intOf i).toNat)
 case atStart=>exact⟨0,s,by omega,rfl,rfl,HST.out.1,HST.out.2⟩
 case round=>
  obtain⟨j,sj,hj,rfl,HJ,kN,yD⟩:=hrel
  clear HST
  by_cases hlt:j<nk
  ·obtain⟨t,ht⟩:=C8 HL.out hlt
   obtain⟨bb,off,rfl,hka⟩:=uM.out.some (by have:=HL.out;omega)
   obtain⟨k',m',a',b',g',n',s',kk,sa',A7,tQ,cap',rfl,⟨e0,e1,e2,e3,e4,e5,e6,e7⟩,hv'⟩:=hka.kid ht
   have hbb:=hka.1
   have bl:=kN.out.c.bel
   have d0:=(bl.cell (p:=⟨bb,off+j*8,none⟩) hbb).trans e0
   have d1:=(bl.cell (p:=⟨bb,off+j*8+1,none⟩) hbb).trans e1
   have d2:=(bl.cell (p:=⟨bb,off+j*8+2,none⟩) hbb).trans e2
   have d3:=(bl.cell (p:=⟨bb,off+j*8+3,none⟩) hbb).trans e3
   have d4:=(bl.cell (p:=⟨bb,off+j*8+4,none⟩) hbb).trans e4
   have d5:=(bl.cell (p:=⟨bb,off+j*8+5,none⟩) hbb).trans e5
   have d6:=(bl.cell (p:=⟨bb,off+j*8+6,none⟩) hbb).trans e6
   have d7:=(bl.cell (p:=⟨bb,off+j*8+7,none⟩) hbb).trans e7
   clear e0 e1 e2 e3 e4 e5 e6 e7
   have hmem:=List.mem_of_getElem? ht
   generalize s'.length=sl' at*
   generalize kk.length=si at*
   obtain⟨T,hTT⟩:∃T,Nd.mk k' m' a' b' g' n' s' kk=T:=⟨_,rfl⟩
   rw[hTT]at ht hmem hv'
   clear hTT
   have HW1:Hid (Cx w0 (wr.alloc (.cells #[.int .i64 k',.int .i64 m',.int .i64 a',.int .i64 b',.bool g',.string n',.slice sa' sl' A7,.slice tQ si cap'] 26)) base g sj):=kN.out.on ((Below.refl _ wr).alloc (Nat.le_refl _) _)
   have oU:Hid (Kt base W (wr.alloc (.cells #[.int .i64 k',.int .i64 m',.int .i64 a',.int .i64 b',.bool g',.string n',.slice sa' sl' A7,.slice tQ si cap'] 26))):=yD.out.trans (kN.out.kt ((Below.refl _ wr).alloc (Nat.le_refl _) _))
   have hsz:=kN.out.c.size
   have CM:=HF.out T hmem _ sj _ HW1.out hv'
   have HDR:Hid (loopO fm ks s=(fm sj T).bind (loopO fm (ks.drop (j+1)))):=by unfold Hid;rw[HJ.out,Le ht,loopO]
   cases hP:fm sj T with
   |none=>
    have C:=CM.no hP
    have HE:Hid (loopO fm ks s=none):=by unfold Hid;rw[HDR.out,hP];rfl
    clear HJ kN yD uM HF hka hv' hmem ht bl CM HDR hP HW1
    go_wp2_with(go_at_call 68;refine C.mono ?_;rintro e w2⟨rfl,d⟩;have HZ:Hid (Kt base W w2):=oU.out.trans d;clear d)
    go_ret
    exact aA (ru.out (by omega) HE.out) HZ.out
   |some s2=>
    have C:=CM.ok hP
    have HE:Hid (loopO fm ks s=loopO fm (ks.drop (j+1)) s2):=by unfold Hid;rw[HDR.out,hP];rfl
    clear HJ kN yD uM HF hka hv' hmem ht bl CM HDR hP HW1
    go_wp2_with(go_at_call 68;refine C.mono ?_;rintro e w2⟨rfl,d,d'⟩;have uN:Hid (Cx w0 w2 base g s2):=d;have HZ:Hid (Kt base W w2):=oU.out.trans d';clear d d')
    go_roundw
    case rel=>exact⟨j+1,s2,by omega,by go_num,HE,uN,HZ⟩
    case measure=>simp[intOf];omega
  ·have HE:Hid (loopO fm ks s=some sj):=by unfold Hid;rw[HJ.out,List.drop_of_length_le (by have:=HL.out;omega),loopO]
   clear HJ uM HF
   go_wp2
   go_ret
   exact Cm HE.out kN.out yD.out
end Go.Proofs.YtgbkolonhddolaaGreatDoor.tre
namespace Go.Proofs.YtgbkolonhddolaaGreatDoor.tre
open Go.RowKit nod
open rng(R RV aH ag below_drewN info_parts own_below')
open tok(PEnv TX ak)
theorem zY{w0 W:World}{base g:Nat}{s:Wr}(c:Cx w0 W base g s)(op:ByteArray)(k m a b:Int)(ng:Bool)(n:ByteArray)(sa:Option Addr)(sl sc:Nat)(ao:Option Addr)(nk cap:Nat)(hk:¬(nk:Int)=1)(hk2:¬nk=1):Met 91 #[.pointer (some ⟨g,0,none⟩),.string op,.agg #[.int .i64 k,.int .i64 m,.int .i64 a,.int .i64 b,.bool ng,.string n,.slice sa sl sc,.slice ao nk cap]] w0 W base g (none):=by
 have HS:Hid (Sn w0 W base g W.heap.size #[.int .i64 k,.int .i64 m,.int .i64 a,.int .i64 b,.bool ng,.string n,.slice sa sl sc,.slice ao nk cap] s (W.alloc (.cells #[.int .i64 k,.int .i64 m,.int .i64 a,.int .i64 b,.bool ng,.string n,.slice sa sl sc,.slice ao nk cap] 26))):=Sn.start c _
 unfold Met
 clear c
 go_enter Tryz.func91,Tryz.ntmps91
 go_wp2
 go_ret
 exact aA (rfl) HS.out.kt
theorem Di{w0 W:World}{base g:Nat}{s:Wr}(c:Cx w0 W base g s)(op:ByteArray)(hop:op.size≤9223372036854775807)(k m a b:Int)(ng:Bool)(n:ByteArray)(sa:Option Addr)(sl sc:Nat)(kb ko cap:Nat)(hcap:1≤cap)(c0 c1 c2 c3 c4 c5 c6 c7:Value)(HA:Hid (nE w0 kb ko (.agg #[c0,c1,c2,c3,c4,c5,c6,c7])))(hkb:kb<base)(Pb:Wr→Option Wr)(HI:Hid (∀W' s',Cx w0 W' base g s'→Met 34 #[.pointer (some ⟨g,0,none⟩),.agg #[c0,c1,c2,c3,c4,c5,c6,c7]] w0 W' base g (Pb s')))(hd:∀s1 s2,Pb s1=some s2→Gd s1→s2.depth=s1.depth):Met 91 #[.pointer (some ⟨g,0,none⟩),.string op,.agg #[.int .i64 k,.int .i64 m,.int .i64 a,.int .i64 b,.bool ng,.string n,.slice sa sl sc,.slice (some ⟨kb,ko,none⟩) 1 cap]] w0 W base g ((fG s op).bind fun s1=>(Pb s1).bind fun s2=>eG s2 ⟨#[41]⟩):=by
 have HS:Hid (Sn w0 W base g W.heap.size #[.int .i64 k,.int .i64 m,.int .i64 a,.int .i64 b,.bool ng,.string n,.slice sa sl sc,.slice (some ⟨kb,ko,none⟩) 1 cap] s (W.alloc (.cells #[.int .i64 k,.int .i64 m,.int .i64 a,.int .i64 b,.bool ng,.string n,.slice sa sl sc,.slice (some ⟨kb,ko,none⟩) 1 cap] 26))):=Sn.start c _
 have hgb:=c.c.size
 unfold Met
 cases h1:fG s op with
 |none=>
  have HE:Hid (∀W',Sn w0 W base g W.heap.size #[.int .i64 k,.int .i64 m,.int .i64 a,.int .i64 b,.bool ng,.string n,.slice sa sl sc,.slice (some ⟨kb,ko,none⟩) 1 cap] s W'→Calls Tryz.prog 112 #[.pointer (some ⟨g,0,none⟩),.string op] W' fun e w'=>e=.returned (.bool false)∧Kt base W w'):=fun W' S=>Met.nV (iN S.cx _ hop) h1 S
  clear c h1
  go_enter Tryz.func91,Tryz.ntmps91
  go_wp2_with(first
   |(go_at_call 112;refine(HE.out _ HS.out).mono ?_;rintro e w1⟨rfl,d⟩;have HZ:Hid (Kt base W w1):=d;clear d))
  go_ret
  exact aA (rfl) HZ.out
 |some s1=>
  have HE:Hid (∀W',Sn w0 W base g W.heap.size #[.int .i64 k,.int .i64 m,.int .i64 a,.int .i64 b,.bool ng,.string n,.slice sa sl sc,.slice (some ⟨kb,ko,none⟩) 1 cap] s W'→Calls Tryz.prog 112 #[.pointer (some ⟨g,0,none⟩),.string op] W' fun e w'=>e=.returned (.bool true)∧Sn w0 W base g W.heap.size #[.int .i64 k,.int .i64 m,.int .i64 a,.int .i64 b,.bool ng,.string n,.slice sa sl sc,.slice (some ⟨kb,ko,none⟩) 1 cap] s1 w'):=fun W' S=>Met.nU (iN S.cx _ hop) h1 S
  have hg:=lK h1 c.gd
  simp only[Option.bind_some]
  cases h2:Pb s1 with
  |none=>
   have HJ:Hid (∀W',Sn w0 W base g W.heap.size #[.int .i64 k,.int .i64 m,.int .i64 a,.int .i64 b,.bool ng,.string n,.slice sa sl sc,.slice (some ⟨kb,ko,none⟩) 1 cap] s1 W'→Calls Tryz.prog 34 #[.pointer (some ⟨g,0,none⟩),.agg #[c0,c1,c2,c3,c4,c5,c6,c7]] W' fun e w'=>e=.returned (.bool false)∧Kt base W w'):=fun W' S=>Met.nV (HI.out W' s1 S.cx) h2 S
   clear c h1 h2 HI hg
   go_enter Tryz.func91,Tryz.ntmps91
   go_wp2_with(first
    |(go_at_call 112;refine(HE.out _ HS.out).mono ?_;rintro e w1⟨rfl,d⟩;have bV:=KJ d;have x0:=d.bk.cell 0 (u:=.int .i64 k) rfl;have x1:=d.bk.cell 1 (u:=.int .i64 m) rfl;have x2:=d.bk.cell 2 (u:=.int .i64 a) rfl;have x3:=d.bk.cell 3 (u:=.int .i64 b) rfl;have x4:=d.bk.cell 4 (u:=.bool ng) rfl;have x5:=d.bk.cell 5 (u:=.string n) rfl;have x6:=d.bk.cell 6 (u:=.slice sa sl sc) rfl;have x7:=d.bk.cell 7 (u:=.slice (some ⟨kb,ko,none⟩) 1 cap) rfl;obtain⟨k0,k1,k2,k3,k4,k5,k6,k7⟩:=d.kid HA.out hkb;clear d)
    |(go_at_call 34;refine(HJ.out _ bV.out).mono ?_;rintro e w2⟨rfl,d⟩;have HZ:Hid (Kt base W w2):=d;clear d))
   go_ret
   exact aA (rfl) HZ.out
  |some s2=>
   have HJ:Hid (∀W',Sn w0 W base g W.heap.size #[.int .i64 k,.int .i64 m,.int .i64 a,.int .i64 b,.bool ng,.string n,.slice sa sl sc,.slice (some ⟨kb,ko,none⟩) 1 cap] s1 W'→Calls Tryz.prog 34 #[.pointer (some ⟨g,0,none⟩),.agg #[c0,c1,c2,c3,c4,c5,c6,c7]] W' fun e w'=>e=.returned (.bool true)∧Sn w0 W base g W.heap.size #[.int .i64 k,.int .i64 m,.int .i64 a,.int .i64 b,.bool ng,.string n,.slice sa sl sc,.slice (some ⟨kb,ko,none⟩) 1 cap] s2 w'):=fun W' S=>Met.nU (HI.out W' s1 S.cx) h2 S
   have hd2:=hd s1 s2 h2 hg.1
   have hl:1≤s2.depth:=by have:=hg.2;have:=c.gd.g.d0;omega
   simp only[Option.bind_some]
   have HP:Hid (∀W',Sn w0 W base g W.heap.size #[.int .i64 k,.int .i64 m,.int .i64 a,.int .i64 b,.bool ng,.string n,.slice sa sl sc,.slice (some ⟨kb,ko,none⟩) 1 cap] s2 W'→Calls Tryz.prog 114 #[.pointer (some ⟨g,0,none⟩),.string ⟨#[41]⟩] W' fun e w'=>e=.returned (.bool (eG s2 ⟨#[41]⟩).isSome)∧(∀s',eG s2 ⟨#[41]⟩=some s'→Cx w0 w' base g s')∧Kt base W w'):=fun W' S=>Met.sn (pV S.cx hl _ (by decide)) S
   generalize eG s2 ⟨#[41]⟩=P at*
   clear c h1 h2 HI hg hd2 hl
   go_enter Tryz.func91,Tryz.ntmps91
   go_wp2_with(first
    |(go_at_call 112;refine(HE.out _ HS.out).mono ?_;rintro e w1⟨rfl,d⟩;have bV:=KJ d;have x0:=d.bk.cell 0 (u:=.int .i64 k) rfl;have x1:=d.bk.cell 1 (u:=.int .i64 m) rfl;have x2:=d.bk.cell 2 (u:=.int .i64 a) rfl;have x3:=d.bk.cell 3 (u:=.int .i64 b) rfl;have x4:=d.bk.cell 4 (u:=.bool ng) rfl;have x5:=d.bk.cell 5 (u:=.string n) rfl;have x6:=d.bk.cell 6 (u:=.slice sa sl sc) rfl;have x7:=d.bk.cell 7 (u:=.slice (some ⟨kb,ko,none⟩) 1 cap) rfl;obtain⟨k0,k1,k2,k3,k4,k5,k6,k7⟩:=d.kid HA.out hkb;clear d)
    |(go_at_call 34;refine(HJ.out _ bV.out).mono ?_;rintro e w2⟨rfl,d⟩;have HS2:=KJ d;clear d)
    |(go_at_call 114;refine(HP.out _ HS2.out).mono ?_;rintro e w3⟨rfl,d1,d2⟩;have HT1:Hid (∀s',_=some s'→Cx w0 w3 base g s'):=d1;have HT2:Hid (Kt base W w3):=d2;clear d1 d2))
   go_ret
   exact⟨ag (by first|rfl|simp),HT1.out,HT2.out⟩
theorem body_6{w0 W:World}{base g:Nat}{s:Wr}(c:Cx w0 W base g s)(m a b:Int)(ng:Bool)(n:ByteArray)(sa:Option Addr)(sl sc:Nat)(ao:Option Addr)(nk cap:Nat)(P:Option Wr)(HC:∀W',Cx w0 W' base g s→Met 45 #[.pointer (some ⟨g,0,none⟩),.agg #[.int .i64 6,.int .i64 m,.int .i64 a,.int .i64 b,.bool ng,.string n,.slice sa sl sc,.slice ao nk cap]] w0 W' base g (P)):Met 34 #[.pointer (some ⟨g,0,none⟩),.agg #[.int .i64 6,.int .i64 m,.int .i64 a,.int .i64 b,.bool ng,.string n,.slice sa sl sc,.slice ao nk cap]] w0 W base g (P):=by
 have HS:Hid (Sn w0 W base g W.heap.size #[.int .i64 6,.int .i64 m,.int .i64 a,.int .i64 b,.bool ng,.string n,.slice sa sl sc,.slice ao nk cap] s (W.alloc (.cells #[.int .i64 6,.int .i64 m,.int .i64 a,.int .i64 b,.bool ng,.string n,.slice sa sl sc,.slice ao nk cap] 26))):=Sn.start c _
 have HP:Hid (∀W',Sn w0 W base g W.heap.size #[.int .i64 6,.int .i64 m,.int .i64 a,.int .i64 b,.bool ng,.string n,.slice sa sl sc,.slice ao nk cap] s W'→Calls Tryz.prog 45 #[.pointer (some ⟨g,0,none⟩),.agg #[.int .i64 6,.int .i64 m,.int .i64 a,.int .i64 b,.bool ng,.string n,.slice sa sl sc,.slice ao nk cap]] W' fun e w'=>e=.returned (.bool (P).isSome)∧(∀s',P=some s'→Cx w0 w' base g s')∧Kt base W w'):=fun W' S=>Met.sn (HC W' S.cx) S
 unfold Met
 clear c HC
 go_enter Tryz.func34,Tryz.ntmps34
 go_wp2_with(first
  |(go_at_call 45;refine(HP.out _ HS.out).mono ?_;rintro e w9⟨rfl,d1,d2⟩;have HT1:Hid (∀s',_=some s'→Cx w0 w9 base g s'):=d1;have HT2:Hid (Kt base W w9):=d2;clear d1 d2))
 go_ret
 exact⟨ag (by first|rfl|simp),HT1.out,HT2.out⟩
theorem body_7{w0 W:World}{base g:Nat}{s:Wr}(c:Cx w0 W base g s)(m a b:Int)(ng:Bool)(n:ByteArray)(sa:Option Addr)(sl sc:Nat)(ao:Option Addr)(nk cap:Nat)(P:Option Wr)(HC:∀W',Cx w0 W' base g s→Met 46 #[.pointer (some ⟨g,0,none⟩),.agg #[.int .i64 7,.int .i64 m,.int .i64 a,.int .i64 b,.bool ng,.string n,.slice sa sl sc,.slice ao nk cap]] w0 W' base g (P)):Met 34 #[.pointer (some ⟨g,0,none⟩),.agg #[.int .i64 7,.int .i64 m,.int .i64 a,.int .i64 b,.bool ng,.string n,.slice sa sl sc,.slice ao nk cap]] w0 W base g (P):=by
 have HS:Hid (Sn w0 W base g W.heap.size #[.int .i64 7,.int .i64 m,.int .i64 a,.int .i64 b,.bool ng,.string n,.slice sa sl sc,.slice ao nk cap] s (W.alloc (.cells #[.int .i64 7,.int .i64 m,.int .i64 a,.int .i64 b,.bool ng,.string n,.slice sa sl sc,.slice ao nk cap] 26))):=Sn.start c _
 have HP:Hid (∀W',Sn w0 W base g W.heap.size #[.int .i64 7,.int .i64 m,.int .i64 a,.int .i64 b,.bool ng,.string n,.slice sa sl sc,.slice ao nk cap] s W'→Calls Tryz.prog 46 #[.pointer (some ⟨g,0,none⟩),.agg #[.int .i64 7,.int .i64 m,.int .i64 a,.int .i64 b,.bool ng,.string n,.slice sa sl sc,.slice ao nk cap]] W' fun e w'=>e=.returned (.bool (P).isSome)∧(∀s',P=some s'→Cx w0 w' base g s')∧Kt base W w'):=fun W' S=>Met.sn (HC W' S.cx) S
 unfold Met
 clear c HC
 go_enter Tryz.func34,Tryz.ntmps34
 go_wp2_with(first
  |(go_at_call 46;refine(HP.out _ HS.out).mono ?_;rintro e w9⟨rfl,d1,d2⟩;have HT1:Hid (∀s',_=some s'→Cx w0 w9 base g s'):=d1;have HT2:Hid (Kt base W w9):=d2;clear d1 d2))
 go_ret
 exact⟨ag (by first|rfl|simp),HT1.out,HT2.out⟩
theorem body_no{w0 W:World}{base g:Nat}{s:Wr}(c:Cx w0 W base g s)(k m a b:Int)(ng:Bool)(n:ByteArray)(sa:Option Addr)(sl sc:Nat)(ao:Option Addr)(nk cap:Nat)(k6:(k==6)=false)(k7:(k==7)=false):Met 34 #[.pointer (some ⟨g,0,none⟩),.agg #[.int .i64 k,.int .i64 m,.int .i64 a,.int .i64 b,.bool ng,.string n,.slice sa sl sc,.slice ao nk cap]] w0 W base g (none):=by
 have HS:Hid (Sn w0 W base g W.heap.size #[.int .i64 k,.int .i64 m,.int .i64 a,.int .i64 b,.bool ng,.string n,.slice sa sl sc,.slice ao nk cap] s (W.alloc (.cells #[.int .i64 k,.int .i64 m,.int .i64 a,.int .i64 b,.bool ng,.string n,.slice sa sl sc,.slice ao nk cap] 26))):=Sn.start c _
 unfold Met
 clear c
 go_enter Tryz.func34,Tryz.ntmps34
 go_wp2
 go_ret
 exact aA (rfl) HS.out.kt
theorem zJ{w0 W:World}{base g:Nat}{s:Wr}(c:Cx w0 W base g s)(k a b:Int)(ng:Bool)(n:ByteArray)(sa:Option Addr)(sl sc:Nat)(ao:Option Addr)(nk cap:Nat)(P:Option Wr)(HC:∀W',Cx w0 W' base g s→Met 136 #[.pointer (some ⟨g,0,none⟩),.slice ao nk cap] w0 W' base g (P)):Met 113 #[.pointer (some ⟨g,0,none⟩),.agg #[.int .i64 k,.int .i64 0,.int .i64 a,.int .i64 b,.bool ng,.string n,.slice sa sl sc,.slice ao nk cap]] w0 W base g (P):=by
 have HS:Hid (Sn w0 W base g W.heap.size #[.int .i64 k,.int .i64 0,.int .i64 a,.int .i64 b,.bool ng,.string n,.slice sa sl sc,.slice ao nk cap] s (W.alloc (.cells #[.int .i64 k,.int .i64 0,.int .i64 a,.int .i64 b,.bool ng,.string n,.slice sa sl sc,.slice ao nk cap] 26))):=Sn.start c _
 have HP:Hid (∀W',Sn w0 W base g W.heap.size #[.int .i64 k,.int .i64 0,.int .i64 a,.int .i64 b,.bool ng,.string n,.slice sa sl sc,.slice ao nk cap] s W'→Calls Tryz.prog 136 #[.pointer (some ⟨g,0,none⟩),.slice ao nk cap] W' fun e w'=>e=.returned (.bool (P).isSome)∧(∀s',P=some s'→Cx w0 w' base g s')∧Kt base W w'):=fun W' S=>Met.sn (HC W' S.cx) S
 unfold Met
 clear c HC
 go_enter Tryz.func113,Tryz.ntmps113
 go_wp2_with(first
  |(go_at_call 136;refine(HP.out _ HS.out).mono ?_;rintro e w9⟨rfl,d1,d2⟩;have HT1:Hid (∀s',_=some s'→Cx w0 w9 base g s'):=d1;have HT2:Hid (Kt base W w9):=d2;clear d1 d2))
 go_ret
 exact⟨ag (by first|rfl|simp),HT1.out,HT2.out⟩
theorem zI{w0 W:World}{base g:Nat}{s:Wr}(c:Cx w0 W base g s)(k a b:Int)(ng:Bool)(n:ByteArray)(sa:Option Addr)(sl sc:Nat)(ao:Option Addr)(nk cap:Nat)(P:Option Wr)(HC:∀W',Cx w0 W' base g s→Met 137 #[.pointer (some ⟨g,0,none⟩),.agg #[.int .i64 k,.int .i64 1,.int .i64 a,.int .i64 b,.bool ng,.string n,.slice sa sl sc,.slice ao nk cap]] w0 W' base g (P)):Met 113 #[.pointer (some ⟨g,0,none⟩),.agg #[.int .i64 k,.int .i64 1,.int .i64 a,.int .i64 b,.bool ng,.string n,.slice sa sl sc,.slice ao nk cap]] w0 W base g (P):=by
 have HS:Hid (Sn w0 W base g W.heap.size #[.int .i64 k,.int .i64 1,.int .i64 a,.int .i64 b,.bool ng,.string n,.slice sa sl sc,.slice ao nk cap] s (W.alloc (.cells #[.int .i64 k,.int .i64 1,.int .i64 a,.int .i64 b,.bool ng,.string n,.slice sa sl sc,.slice ao nk cap] 26))):=Sn.start c _
 have HP:Hid (∀W',Sn w0 W base g W.heap.size #[.int .i64 k,.int .i64 1,.int .i64 a,.int .i64 b,.bool ng,.string n,.slice sa sl sc,.slice ao nk cap] s W'→Calls Tryz.prog 137 #[.pointer (some ⟨g,0,none⟩),.agg #[.int .i64 k,.int .i64 1,.int .i64 a,.int .i64 b,.bool ng,.string n,.slice sa sl sc,.slice ao nk cap]] W' fun e w'=>e=.returned (.bool (P).isSome)∧(∀s',P=some s'→Cx w0 w' base g s')∧Kt base W w'):=fun W' S=>Met.sn (HC W' S.cx) S
 unfold Met
 clear c HC
 go_enter Tryz.func113,Tryz.ntmps113
 go_wp2_with(first
  |(go_at_call 137;refine(HP.out _ HS.out).mono ?_;rintro e w9⟨rfl,d1,d2⟩;have HT1:Hid (∀s',_=some s'→Cx w0 w9 base g s'):=d1;have HT2:Hid (Kt base W w9):=d2;clear d1 d2))
 go_ret
 exact⟨ag (by first|rfl|simp),HT1.out,HT2.out⟩
theorem zH{w0 W:World}{base g:Nat}{s:Wr}(c:Cx w0 W base g s)(k a b:Int)(ng:Bool)(n:ByteArray)(sa:Option Addr)(sl sc:Nat)(ao:Option Addr)(nk cap:Nat)(P:Option Wr)(HC:∀W',Cx w0 W' base g s→Met 137 #[.pointer (some ⟨g,0,none⟩),.agg #[.int .i64 k,.int .i64 2,.int .i64 a,.int .i64 b,.bool ng,.string n,.slice sa sl sc,.slice ao nk cap]] w0 W' base g (P)):Met 113 #[.pointer (some ⟨g,0,none⟩),.agg #[.int .i64 k,.int .i64 2,.int .i64 a,.int .i64 b,.bool ng,.string n,.slice sa sl sc,.slice ao nk cap]] w0 W base g (P):=by
 have HS:Hid (Sn w0 W base g W.heap.size #[.int .i64 k,.int .i64 2,.int .i64 a,.int .i64 b,.bool ng,.string n,.slice sa sl sc,.slice ao nk cap] s (W.alloc (.cells #[.int .i64 k,.int .i64 2,.int .i64 a,.int .i64 b,.bool ng,.string n,.slice sa sl sc,.slice ao nk cap] 26))):=Sn.start c _
 have HP:Hid (∀W',Sn w0 W base g W.heap.size #[.int .i64 k,.int .i64 2,.int .i64 a,.int .i64 b,.bool ng,.string n,.slice sa sl sc,.slice ao nk cap] s W'→Calls Tryz.prog 137 #[.pointer (some ⟨g,0,none⟩),.agg #[.int .i64 k,.int .i64 2,.int .i64 a,.int .i64 b,.bool ng,.string n,.slice sa sl sc,.slice ao nk cap]] W' fun e w'=>e=.returned (.bool (P).isSome)∧(∀s',P=some s'→Cx w0 w' base g s')∧Kt base W w'):=fun W' S=>Met.sn (HC W' S.cx) S
 unfold Met
 clear c HC
 go_enter Tryz.func113,Tryz.ntmps113
 go_wp2_with(first
  |(go_at_call 137;refine(HP.out _ HS.out).mono ?_;rintro e w9⟨rfl,d1,d2⟩;have HT1:Hid (∀s',_=some s'→Cx w0 w9 base g s'):=d1;have HT2:Hid (Kt base W w9):=d2;clear d1 d2))
 go_ret
 exact⟨ag (by first|rfl|simp),HT1.out,HT2.out⟩
theorem zG{w0 W:World}{base g:Nat}{s:Wr}(c:Cx w0 W base g s)(k a b:Int)(ng:Bool)(n:ByteArray)(sa:Option Addr)(sl sc:Nat)(ao:Option Addr)(nk cap:Nat)(P:Option Wr)(HC:∀W',Cx w0 W' base g s→Met 137 #[.pointer (some ⟨g,0,none⟩),.agg #[.int .i64 k,.int .i64 3,.int .i64 a,.int .i64 b,.bool ng,.string n,.slice sa sl sc,.slice ao nk cap]] w0 W' base g (P)):Met 113 #[.pointer (some ⟨g,0,none⟩),.agg #[.int .i64 k,.int .i64 3,.int .i64 a,.int .i64 b,.bool ng,.string n,.slice sa sl sc,.slice ao nk cap]] w0 W base g (P):=by
 have HS:Hid (Sn w0 W base g W.heap.size #[.int .i64 k,.int .i64 3,.int .i64 a,.int .i64 b,.bool ng,.string n,.slice sa sl sc,.slice ao nk cap] s (W.alloc (.cells #[.int .i64 k,.int .i64 3,.int .i64 a,.int .i64 b,.bool ng,.string n,.slice sa sl sc,.slice ao nk cap] 26))):=Sn.start c _
 have HP:Hid (∀W',Sn w0 W base g W.heap.size #[.int .i64 k,.int .i64 3,.int .i64 a,.int .i64 b,.bool ng,.string n,.slice sa sl sc,.slice ao nk cap] s W'→Calls Tryz.prog 137 #[.pointer (some ⟨g,0,none⟩),.agg #[.int .i64 k,.int .i64 3,.int .i64 a,.int .i64 b,.bool ng,.string n,.slice sa sl sc,.slice ao nk cap]] W' fun e w'=>e=.returned (.bool (P).isSome)∧(∀s',P=some s'→Cx w0 w' base g s')∧Kt base W w'):=fun W' S=>Met.sn (HC W' S.cx) S
 unfold Met
 clear c HC
 go_enter Tryz.func113,Tryz.ntmps113
 go_wp2_with(first
  |(go_at_call 137;refine(HP.out _ HS.out).mono ?_;rintro e w9⟨rfl,d1,d2⟩;have HT1:Hid (∀s',_=some s'→Cx w0 w9 base g s'):=d1;have HT2:Hid (Kt base W w9):=d2;clear d1 d2))
 go_ret
 exact⟨ag (by first|rfl|simp),HT1.out,HT2.out⟩
theorem vK{w0 W:World}{base g:Nat}{s:Wr}(c:Cx w0 W base g s)(k m a b:Int)(ng:Bool)(n:ByteArray)(sa:Option Addr)(sl sc:Nat)(ao:Option Addr)(nk cap:Nat)(m0:(m==0)=false)(m1:(m==1)=false)(m2:(m==2)=false)(m3:(m==3)=false):Met 113 #[.pointer (some ⟨g,0,none⟩),.agg #[.int .i64 k,.int .i64 m,.int .i64 a,.int .i64 b,.bool ng,.string n,.slice sa sl sc,.slice ao nk cap]] w0 W base g (none):=by
 have HS:Hid (Sn w0 W base g W.heap.size #[.int .i64 k,.int .i64 m,.int .i64 a,.int .i64 b,.bool ng,.string n,.slice sa sl sc,.slice ao nk cap] s (W.alloc (.cells #[.int .i64 k,.int .i64 m,.int .i64 a,.int .i64 b,.bool ng,.string n,.slice sa sl sc,.slice ao nk cap] 26))):=Sn.start c _
 unfold Met
 clear c
 go_enter Tryz.func113,Tryz.ntmps113
 go_wp2
 go_ret
 exact aA (rfl) HS.out.kt
end Go.Proofs.YtgbkolonhddolaaGreatDoor.tre
namespace Go.Proofs.YtgbkolonhddolaaGreatDoor.tre
open Go.RowKit nod
open rng(R RV aH ag below_drewN info_parts own_below')
open tok(PEnv TX ak)
/--The writer s, the node that came in, and copies of its two kids. -/
structure SW(w0 W:World)(base g z:Nat)(box:Array Value)(p:Nat)(lx:Array Value)(q:Nat)(rx:Array Value)(s:Wr)(w':World):Prop where
 sn:Sn w0 W base g z box s w'
 bl:Bk w' p lx 26
 br:Bk w' q rx 26
theorem SW.quiet{w0 W w' w'':World}{base g z p q:Nat}{box lx rx:Array Value}{s:Wr}(S:SW w0 W base g z box p lx q rx s w')(d:Below w'.heap.size w' w''):SW w0 W base g z box p lx q rx s w'':=
 ⟨S.sn.quiet d,S.bl.on d,S.br.on d⟩
theorem SW.wrote{w0 W w' w'':World}{base g z p q:Nat}{box lx rx:Array Value}{s s':Wr}(S:SW w0 W base g z box p lx q rx s w')(k:Kt base w' w'')(c:Cx w0 w'' base g s'):SW w0 W base g z box p lx q rx s' w'':=
 ⟨S.sn.wrote k c,Bk.kt S.bl k iV.1 iV.2.1 iV.2.2,Bk.kt S.br k iV.1 iV.2.1 iV.2.2⟩
theorem Met.s2{f:FuncId}{args:Array Value}{w0 W W':World}{base g z p q:Nat}{box lx rx:Array Value}{s:Wr}{P:Option Wr}(h:Met f args w0 W' base g P)(S:SW w0 W base g z box p lx q rx s W'):
 Calls Tryz.prog f args W' fun e w'=>e=.returned (.bool P.isSome)∧(∀s',P=some s'→Cx w0 w' base g s')∧Kt base W w':=h.mono fun e w'⟨h1,h2,h3⟩=>⟨h1,h2,S.sn.kt.trans h3⟩
theorem Met.s2_no{f:FuncId}{args:Array Value}{w0 W W':World}{base g z p q:Nat}{box lx rx:Array Value}{s:Wr}{P:Option Wr}(h:Met f args w0 W' base g P)(e:P=none)(S:SW w0 W base g z box p lx q rx s W'):
 Calls Tryz.prog f args W' fun e w'=>e=.returned (.bool false)∧Kt base W w':=(h.no e).mono fun e w'⟨h1,h3⟩=>⟨h1,S.sn.kt.trans h3⟩
theorem Met.s2_ok{f:FuncId}{args:Array Value}{w0 W W':World}{base g z p q:Nat}{box lx rx:Array Value}{s s':Wr}{P:Option Wr}(h:Met f args w0 W' base g P)(e:P=some s')(S:SW w0 W base g z box p lx q rx s W'):
 Calls Tryz.prog f args W' fun e w'=>e=.returned (.bool true)∧SW w0 W base g z box p lx q rx s' w':=(h.ok e).mono fun e w'⟨h1,h2,h3⟩=>⟨h1,S.wrote h3 h2⟩
theorem eF{f:FuncId}{args:Array Value}{v:Value}{w0 W W':World}{base g z p q:Nat}{box lx rx:Array Value}{s:Wr}(S:SW w0 W base g z box p lx q rx s W')(h:Calls Tryz.prog f args W' fun e w'=>e=.returned v∧Below W'.heap.size W' w'):
 Calls Tryz.prog f args W' fun e w'=>e=.returned v∧SW w0 W base g z box p lx q rx s w':=h.mono fun e w'⟨h1,h2⟩=>⟨h1,S.quiet h2⟩
theorem uW(W1:World)(o1 o2:Obj):Below W1.heap.size W1 ((W1.alloc o1).alloc o2).drew:=Below.drew (bP W1 o1 o2)
theorem SW.o9{w0 W W1:World}{base g z z1:Nat}{box lx rx:Array Value}{s:Wr}(S:Sn w0 W base g z box s W1)(hz:W1.heap.size=z1):SW w0 W base g z box z1 lx (z1+1) rx s ((W1.alloc (.cells lx 26)).alloc (.cells rx 26)).drew:=by
 subst hz
 have h1:Bk ((W1.alloc (.cells lx 26)).alloc (.cells rx 26)) W1.heap.size lx 26:=(Bk.new W1 _ _).past _
 have h2:Bk ((W1.alloc (.cells lx 26)).alloc (.cells rx 26)) (W1.heap.size+1) rx 26:=bk2
 exact⟨S.quiet (uW W1 _ _),h1,h2⟩
theorem SW.o7{w0 W W1:World}{base g z z1:Nat}{box lx rx:Array Value}{s:Wr}(S:Sn w0 W base g z box s W1)(hz:W1.heap.size=z1):SW w0 W base g z box (z1+1) lx z1 rx s ((W1.alloc (.cells rx 26)).alloc (.cells lx 26)).drew:=by
 subst hz
 have h1:Bk ((W1.alloc (.cells rx 26)).alloc (.cells lx 26)) W1.heap.size rx 26:=(Bk.new W1 _ _).past _
 have h2:Bk ((W1.alloc (.cells rx 26)).alloc (.cells lx 26)) (W1.heap.size+1) lx 26:=bk2
 exact⟨S.quiet (uW W1 _ _),h2,h1⟩
theorem Er{s:Wr}(g:Gd s)(h:0≤s.room-2):Gd (s.less 2):=by
 obtain⟨⟨r0,r1,d0,d1,g0,g1,n1⟩,n⟩:=g
 exact⟨⟨h,by show(s.text.length:Int)+(s.room-2)≤2000;omega,d0,d1,g0,g1,n1⟩,n⟩
theorem DX{w0 W W':World}{base g z p q:Nat}{box lx rx:Array Value}{s:Wr}(S:SW w0 W base g z box p lx q rx s W')(h:0≤s.room-2):
  Calls Tryz.prog 94 #[.pointer (some ⟨g,0,none⟩),.int .i64 2] W' fun e w'=>e=.returned (.bool true)∧SW w0 W base g z box p lx q rx (s.less 2) w':=by
 have C:=rG base g s 2 W' S.sn.cx.c.wr S.sn.cx.c.r0 (by have:=S.sn.cx.c.r1;omega) (by omega) (by omega)
 rw[decide_eq_true h]at C
 have gg:=Er S.sn.cx.gd h
 exact C.mono fun e w'⟨h1,h2,h3⟩=>⟨h1,S.wrote h3 ⟨S.sn.cx.c.to h3 h2 gg.g.r0 gg.g.r1,gg⟩⟩
theorem Jd{w0 W W':World}{base g z p q:Nat}{box lx rx:Array Value}{s:Wr}(S:SW w0 W base g z box p lx q rx s W')(h:¬0≤s.room-2):
  Calls Tryz.prog 94 #[.pointer (some ⟨g,0,none⟩),.int .i64 2] W' fun e w'=>e=.returned (.bool false)∧Kt base W w':=by
 have C:=rG base g s 2 W' S.sn.cx.c.wr S.sn.cx.c.r0 (by have:=S.sn.cx.c.r1;omega) (by omega) (by omega)
 rw[decide_eq_false h]at C
 exact C.mono fun e w'⟨h1,h2,h3⟩=>⟨h1,S.sn.kt.trans h3⟩
theorem IY{w0 W W':World}{base g z p q:Nat}{box lx rx:Array Value}{s:Wr}(S:SW w0 W base g z box p lx q rx s W')(O:ByteArray)(hO:O.size=2)(gg:Gd (s.add O)):
  Calls Tryz.prog 95 #[.pointer (some ⟨g,0,none⟩),.string O] W' fun e w'=>e=.returned (.tuple #[.int .i64 O.size,.nilIface])∧SW w0 W base g z box p lx q rx (s.add O) w':=by
 have C:=uS base g s O W' S.sn.cx.c.wr (by have:=S.sn.cx.c.r1;have:=S.sn.cx.c.r0;omega)
 exact C.mono fun e w'⟨h1,h2,h3⟩=>⟨h1,S.wrote h3 ⟨S.sn.cx.c.to h3 h2 gg.g.r0 gg.g.r1,gg⟩⟩
theorem mf{w0 W:World}{base g:Nat}{s:Wr}(c:Cx w0 W base g s)(k m a b:Int)(ng:Bool)(n:ByteArray)(sa:Option Addr)(sl sc:Nat)(ao:Option Addr)(nk cap:Nat)(hk:¬(nk:Int)=2)(hk2:¬nk=2):Met 137 #[.pointer (some ⟨g,0,none⟩),.agg #[.int .i64 k,.int .i64 m,.int .i64 a,.int .i64 b,.bool ng,.string n,.slice sa sl sc,.slice ao nk cap]] w0 W base g (none):=by
 have HS:Hid (Sn w0 W base g W.heap.size #[.int .i64 k,.int .i64 m,.int .i64 a,.int .i64 b,.bool ng,.string n,.slice sa sl sc,.slice ao nk cap] s (W.alloc (.cells #[.int .i64 k,.int .i64 m,.int .i64 a,.int .i64 b,.bool ng,.string n,.slice sa sl sc,.slice ao nk cap] 26))):=Sn.start c _
 unfold Met
 clear c
 go_enter Tryz.func137,Tryz.ntmps137
 go_wp2
 go_ret
 exact aA (rfl) HS.out.kt
end Go.Proofs.YtgbkolonhddolaaGreatDoor.tre
