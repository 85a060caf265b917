import Derived.Test.YtgbkolonhddolaaGreatDoorBpTre4
import Derived.Test.YtgbkolonhddolaaGreatDoorBpTre5
import Derived.Test.YtgbkolonhddolaaGreatDoorBpTre6
set_option linter.unusedSimpArgs false
set_option linter.unusedVariables false
set_option maxRecDepth 10000
set_option maxHeartbeats 2000000
theorem Go.Proofs.YtgbkolonhddolaaGreatDoor.qJ{p:Prop}(h:p):Go.RowKit.Hid p:=h
namespace Go.Proofs.YtgbkolonhddolaaGreatDoor.tre
open Go.RowKit nod
open rng(R RV aH ag below_drewN info_parts own_below')
open tok(PEnv TX ak)
theorem sides_w{w0 W:World}{base g:Nat}{s:Wr}(c:Cx w0 W base g s)(k m a b:Int)(ng:Bool)(n:ByteArray)(sa:Option Addr)(sl sc:Nat)(kb ko cap:Nat)(hcap:2≤cap)(lk lm la lb rk rm ra rb:Int)(lg rg:Bool)(ln rn:ByteArray)(aL aM aQ aR:Option Addr)(aX aK aY au bn aP bq av:Nat)(HA:Hid (nE w0 kb ko (.agg #[.int .i64 lk,.int .i64 lm,.int .i64 la,.int .i64 lb,.bool lg,.string ln,.slice aL aX aK,.slice aM aY au])))(HA2:Hid (nE w0 kb (ko+8) (.agg #[.int .i64 rk,.int .i64 0,.int .i64 ra,.int .i64 rb,.bool rg,.string rn,.slice aQ bn aP,.slice aR bq av])))(hkb:kb<base)(O:ByteArray)(hO:O.size=2)(s1:Wr)(P:Option Wr)(AY:Hid (∀p q W',SW w0 W base g W.heap.size #[.int .i64 k,.int .i64 m,.int .i64 a,.int .i64 b,.bool ng,.string n,.slice sa sl sc,.slice (some ⟨kb,ko,none⟩) 2 cap] p #[.int .i64 lk,.int .i64 lm,.int .i64 la,.int .i64 lb,.bool lg,.string ln,.slice aL aX aK,.slice aM aY au] q #[.int .i64 rk,.int .i64 0,.int .i64 ra,.int .i64 rb,.bool rg,.string rn,.slice aQ bn aP,.slice aR bq av] s W'→Calls Tryz.prog 159 #[.int .i64 m] W' fun e w'=>e=.returned (.string O)∧SW w0 W base g W.heap.size #[.int .i64 k,.int .i64 m,.int .i64 a,.int .i64 b,.bool ng,.string n,.slice sa sl sc,.slice (some ⟨kb,ko,none⟩) 2 cap] p #[.int .i64 lk,.int .i64 lm,.int .i64 la,.int .i64 lb,.bool lg,.string ln,.slice aL aX aK,.slice aM aY au] q #[.int .i64 rk,.int .i64 0,.int .i64 ra,.int .i64 rb,.bool rg,.string rn,.slice aQ bn aP,.slice aR bq av] s w'))(AU:Hid (∀p q W',SW w0 W base g W.heap.size #[.int .i64 k,.int .i64 m,.int .i64 a,.int .i64 b,.bool ng,.string n,.slice sa sl sc,.slice (some ⟨kb,ko,none⟩) 2 cap] p #[.int .i64 lk,.int .i64 lm,.int .i64 la,.int .i64 lb,.bool lg,.string ln,.slice aL aX aK,.slice aM aY au] q #[.int .i64 rk,.int .i64 0,.int .i64 ra,.int .i64 rb,.bool rg,.string rn,.slice aQ bn aP,.slice aR bq av] s W'→Calls Tryz.prog 160 #[.agg #[.int .i64 lk,.int .i64 lm,.int .i64 la,.int .i64 lb,.bool lg,.string ln,.slice aL aX aK,.slice aM aY au]] W' fun e w'=>e=.returned (.bool true)∧SW w0 W base g W.heap.size #[.int .i64 k,.int .i64 m,.int .i64 a,.int .i64 b,.bool ng,.string n,.slice sa sl sc,.slice (some ⟨kb,ko,none⟩) 2 cap] p #[.int .i64 lk,.int .i64 lm,.int .i64 la,.int .i64 lb,.bool lg,.string ln,.slice aL aX aK,.slice aM aY au] q #[.int .i64 rk,.int .i64 0,.int .i64 ra,.int .i64 rb,.bool rg,.string rn,.slice aQ bn aP,.slice aR bq av] s w'))(EK:Hid (∀p q W',SW w0 W base g W.heap.size #[.int .i64 k,.int .i64 m,.int .i64 a,.int .i64 b,.bool ng,.string n,.slice sa sl sc,.slice (some ⟨kb,ko,none⟩) 2 cap] p #[.int .i64 lk,.int .i64 lm,.int .i64 la,.int .i64 lb,.bool lg,.string ln,.slice aL aX aK,.slice aM aY au] q #[.int .i64 rk,.int .i64 0,.int .i64 ra,.int .i64 rb,.bool rg,.string rn,.slice aQ bn aP,.slice aR bq av] s W'→Calls Tryz.prog 160 #[.agg #[.int .i64 rk,.int .i64 0,.int .i64 ra,.int .i64 rb,.bool rg,.string rn,.slice aQ bn aP,.slice aR bq av]] W' fun e w'=>e=.returned (.bool true)∧SW w0 W base g W.heap.size #[.int .i64 k,.int .i64 m,.int .i64 a,.int .i64 b,.bool ng,.string n,.slice sa sl sc,.slice (some ⟨kb,ko,none⟩) 2 cap] p #[.int .i64 lk,.int .i64 lm,.int .i64 la,.int .i64 lb,.bool lg,.string ln,.slice aL aX aK,.slice aM aY au] q #[.int .i64 rk,.int .i64 0,.int .i64 ra,.int .i64 rb,.bool rg,.string rn,.slice aQ bn aP,.slice aR bq av] s w'))(HTK:Hid (∀p q W',SW w0 W base g W.heap.size #[.int .i64 k,.int .i64 m,.int .i64 a,.int .i64 b,.bool ng,.string n,.slice sa sl sc,.slice (some ⟨kb,ko,none⟩) 2 cap] p #[.int .i64 lk,.int .i64 lm,.int .i64 la,.int .i64 lb,.bool lg,.string ln,.slice aL aX aK,.slice aM aY au] q #[.int .i64 rk,.int .i64 0,.int .i64 ra,.int .i64 rb,.bool rg,.string rn,.slice aQ bn aP,.slice aR bq av] s W'→Calls Tryz.prog 94 #[.pointer (some ⟨g,0,none⟩),.int .i64 2] W' fun e w'=>e=.returned (.bool true)∧SW w0 W base g W.heap.size #[.int .i64 k,.int .i64 m,.int .i64 a,.int .i64 b,.bool ng,.string n,.slice sa sl sc,.slice (some ⟨kb,ko,none⟩) 2 cap] p #[.int .i64 lk,.int .i64 lm,.int .i64 la,.int .i64 lb,.bool lg,.string ln,.slice aL aX aK,.slice aM aY au] q #[.int .i64 rk,.int .i64 0,.int .i64 ra,.int .i64 rb,.bool rg,.string rn,.slice aQ bn aP,.slice aR bq av] (s.less 2) w'))(HIL:Hid (∀p q W',SW w0 W base g W.heap.size #[.int .i64 k,.int .i64 m,.int .i64 a,.int .i64 b,.bool ng,.string n,.slice sa sl sc,.slice (some ⟨kb,ko,none⟩) 2 cap] p #[.int .i64 lk,.int .i64 lm,.int .i64 la,.int .i64 lb,.bool lg,.string ln,.slice aL aX aK,.slice aM aY au] q #[.int .i64 rk,.int .i64 0,.int .i64 ra,.int .i64 rb,.bool rg,.string rn,.slice aQ bn aP,.slice aR bq av] (s.less 2) W'→Calls Tryz.prog 113 #[.pointer (some ⟨g,0,none⟩),.agg #[.int .i64 lk,.int .i64 lm,.int .i64 la,.int .i64 lb,.bool lg,.string ln,.slice aL aX aK,.slice aM aY au]] W' fun e w'=>e=.returned (.bool true)∧SW w0 W base g W.heap.size #[.int .i64 k,.int .i64 m,.int .i64 a,.int .i64 b,.bool ng,.string n,.slice sa sl sc,.slice (some ⟨kb,ko,none⟩) 2 cap] p #[.int .i64 lk,.int .i64 lm,.int .i64 la,.int .i64 lb,.bool lg,.string ln,.slice aL aX aK,.slice aM aY au] q #[.int .i64 rk,.int .i64 0,.int .i64 ra,.int .i64 rb,.bool rg,.string rn,.slice aQ bn aP,.slice aR bq av] s1 w'))(HWS:Hid (∀p q W',SW w0 W base g W.heap.size #[.int .i64 k,.int .i64 m,.int .i64 a,.int .i64 b,.bool ng,.string n,.slice sa sl sc,.slice (some ⟨kb,ko,none⟩) 2 cap] p #[.int .i64 lk,.int .i64 lm,.int .i64 la,.int .i64 lb,.bool lg,.string ln,.slice aL aX aK,.slice aM aY au] q #[.int .i64 rk,.int .i64 0,.int .i64 ra,.int .i64 rb,.bool rg,.string rn,.slice aQ bn aP,.slice aR bq av] s1 W'→Calls Tryz.prog 95 #[.pointer (some ⟨g,0,none⟩),.string O] W' fun e w'=>e=.returned (.tuple #[.int .i64 O.size,.nilIface])∧SW w0 W base g W.heap.size #[.int .i64 k,.int .i64 m,.int .i64 a,.int .i64 b,.bool ng,.string n,.slice sa sl sc,.slice (some ⟨kb,ko,none⟩) 2 cap] p #[.int .i64 lk,.int .i64 lm,.int .i64 la,.int .i64 lb,.bool lg,.string ln,.slice aL aX aK,.slice aM aY au] q #[.int .i64 rk,.int .i64 0,.int .i64 ra,.int .i64 rb,.bool rg,.string rn,.slice aQ bn aP,.slice aR bq av] (s1.add O) w'))(HIR:Hid (∀p q W',SW w0 W base g W.heap.size #[.int .i64 k,.int .i64 m,.int .i64 a,.int .i64 b,.bool ng,.string n,.slice sa sl sc,.slice (some ⟨kb,ko,none⟩) 2 cap] p #[.int .i64 lk,.int .i64 lm,.int .i64 la,.int .i64 lb,.bool lg,.string ln,.slice aL aX aK,.slice aM aY au] q #[.int .i64 rk,.int .i64 0,.int .i64 ra,.int .i64 rb,.bool rg,.string rn,.slice aQ bn aP,.slice aR bq av] (s1.add O) W'→Calls Tryz.prog 113 #[.pointer (some ⟨g,0,none⟩),.agg #[.int .i64 rk,.int .i64 0,.int .i64 ra,.int .i64 rb,.bool rg,.string rn,.slice aQ bn aP,.slice aR bq av]] W' fun e w'=>e=.returned (.bool (P).isSome)∧(∀s',P=some s'→Cx w0 w' base g s')∧Kt base W w')):Met 137 #[.pointer (some ⟨g,0,none⟩),.agg #[.int .i64 k,.int .i64 m,.int .i64 a,.int .i64 b,.bool ng,.string n,.slice sa sl sc,.slice (some ⟨kb,ko,none⟩) 2 cap]] w0 W base g (P):=by
 have HS:Hid (Sn w0 W base g W.heap.size #[.int .i64 k,.int .i64 m,.int .i64 a,.int .i64 b,.bool ng,.string n,.slice sa sl sc,.slice (some ⟨kb,ko,none⟩) 2 cap] s (W.alloc (.cells #[.int .i64 k,.int .i64 m,.int .i64 a,.int .i64 b,.bool ng,.string n,.slice sa sl sc,.slice (some ⟨kb,ko,none⟩) 2 cap] 26))):=Sn.start c _
 have hgb:=c.c.size
 obtain⟨k0,k1,k2,k3,k4,k5,k6,k7⟩:=HS.out.kid HA.out hkb
 obtain⟨j0,j1,j2,j3,j4,j5,j6,j7⟩:=HS.out.kid HA2.out hkb
 have hl1:=HS.out.bk.lt
 unfold Met
 clear c
 go_enter Tryz.func137,Tryz.ntmps137
 go_wp2
 go_region_held3(fun w'=>w'.cell? ⟨W.heap.size,7,none⟩=some (.slice (some ⟨kb,ko,none⟩) 2 cap)∧w'.cell? ⟨kb,ko,none⟩=some (.int .i64 lk)∧w'.cell? ⟨kb,ko+1,none⟩=some (.int .i64 lm)∧w'.cell? ⟨kb,ko+2,none⟩=some (.int .i64 la)∧w'.cell? ⟨kb,ko+3,none⟩=some (.int .i64 lb)∧w'.cell? ⟨kb,ko+4,none⟩=some (.bool lg)∧w'.cell? ⟨kb,ko+5,none⟩=some (.string ln)∧w'.cell? ⟨kb,ko+6,none⟩=some (.slice aL aX aK)∧w'.cell? ⟨kb,ko+7,none⟩=some (.slice aM aY au)∧w'.cell? ⟨kb,ko+8,none⟩=some (.int .i64 rk)∧w'.cell? ⟨kb,ko+8+1,none⟩=some (.int .i64 0)∧w'.cell? ⟨kb,ko+8+2,none⟩=some (.int .i64 ra)∧w'.cell? ⟨kb,ko+8+3,none⟩=some (.int .i64 rb)∧w'.cell? ⟨kb,ko+8+4,none⟩=some (.bool rg)∧w'.cell? ⟨kb,ko+8+5,none⟩=some (.string rn)∧w'.cell? ⟨kb,ko+8+6,none⟩=some (.slice aQ bn aP)∧w'.cell? ⟨kb,ko+8+7,none⟩=some (.slice aR bq av))(go_keep)(fail)
 ·clear k0 k1 k2 k3 k4 k5 k6 k7 j0 j1 j2 j3 j4 j5 j6 j7
  have HT0:Hid (SW w0 W base g W.heap.size #[.int .i64 k,.int .i64 m,.int .i64 a,.int .i64 b,.bool ng,.string n,.slice sa sl sc,.slice (some ⟨kb,ko,none⟩) 2 cap] (W.heap.size+1) #[.int .i64 lk,.int .i64 lm,.int .i64 la,.int .i64 lb,.bool lg,.string ln,.slice aL aX aK,.slice aM aY au] (W.heap.size+1+1) #[.int .i64 rk,.int .i64 0,.int .i64 ra,.int .i64 rb,.bool rg,.string rn,.slice aQ bn aP,.slice aR bq av] s (((W.alloc (.cells #[.int .i64 k,.int .i64 m,.int .i64 a,.int .i64 b,.bool ng,.string n,.slice sa sl sc,.slice (some ⟨kb,ko,none⟩) 2 cap] 26)).alloc (.cells #[.int .i64 lk,.int .i64 lm,.int .i64 la,.int .i64 lb,.bool lg,.string ln,.slice aL aX aK,.slice aM aY au] 26)).alloc (.cells #[.int .i64 rk,.int .i64 0,.int .i64 ra,.int .i64 rb,.bool rg,.string rn,.slice aQ bn aP,.slice aR bq av] 26)).drew):=SW.o9 HS.out (by simp)
  go_wp2_with(first
   |(go_at_call 159;refine(AY.out _ _ _ HT0.out).mono ?_;rintro e w1⟨rfl,d⟩;have HT3:=qJ d;have jN:=d.bl.cell 0 (u:=.int .i64 lk) rfl;have jM:=d.bl.cell 1 (u:=.int .i64 lm) rfl;have jL:=d.bl.cell 2 (u:=.int .i64 la) rfl;have jK:=d.bl.cell 3 (u:=.int .i64 lb) rfl;have jJ:=d.bl.cell 4 (u:=.bool lg) rfl;have jI:=d.bl.cell 5 (u:=.string ln) rfl;have jH:=d.bl.cell 6 (u:=.slice aL aX aK) rfl;have jG:=d.bl.cell 7 (u:=.slice aM aY au) rfl;have jF:=d.br.cell 0 (u:=.int .i64 rk) rfl;have jE:=d.br.cell 1 (u:=.int .i64 0) rfl;have jD:=d.br.cell 2 (u:=.int .i64 ra) rfl;have jC:=d.br.cell 3 (u:=.int .i64 rb) rfl;have jB:=d.br.cell 4 (u:=.bool rg) rfl;have jA:=d.br.cell 5 (u:=.string rn) rfl;have jy:=d.br.cell 6 (u:=.slice aQ bn aP) rfl;have jw:=d.br.cell 7 (u:=.slice aR bq av) rfl;clear d)
   |(go_at_call_of 160(Value.string ln);refine(AU.out _ _ _ HT3.out).mono ?_;rintro e w2⟨rfl,d⟩;have tY:=qJ d;have jN:=d.bl.cell 0 (u:=.int .i64 lk) rfl;have jM:=d.bl.cell 1 (u:=.int .i64 lm) rfl;have jL:=d.bl.cell 2 (u:=.int .i64 la) rfl;have jK:=d.bl.cell 3 (u:=.int .i64 lb) rfl;have jJ:=d.bl.cell 4 (u:=.bool lg) rfl;have jI:=d.bl.cell 5 (u:=.string ln) rfl;have jH:=d.bl.cell 6 (u:=.slice aL aX aK) rfl;have jG:=d.bl.cell 7 (u:=.slice aM aY au) rfl;have jF:=d.br.cell 0 (u:=.int .i64 rk) rfl;have jE:=d.br.cell 1 (u:=.int .i64 0) rfl;have jD:=d.br.cell 2 (u:=.int .i64 ra) rfl;have jC:=d.br.cell 3 (u:=.int .i64 rb) rfl;have jB:=d.br.cell 4 (u:=.bool rg) rfl;have jA:=d.br.cell 5 (u:=.string rn) rfl;have jy:=d.br.cell 6 (u:=.slice aQ bn aP) rfl;have jw:=d.br.cell 7 (u:=.slice aR bq av) rfl;clear d)
   |(go_at_call_of 160(Value.string rn);refine(EK.out _ _ _ tY.out).mono ?_;rintro e w3⟨rfl,d⟩;have uh:=qJ d;have jN:=d.bl.cell 0 (u:=.int .i64 lk) rfl;have jM:=d.bl.cell 1 (u:=.int .i64 lm) rfl;have jL:=d.bl.cell 2 (u:=.int .i64 la) rfl;have jK:=d.bl.cell 3 (u:=.int .i64 lb) rfl;have jJ:=d.bl.cell 4 (u:=.bool lg) rfl;have jI:=d.bl.cell 5 (u:=.string ln) rfl;have jH:=d.bl.cell 6 (u:=.slice aL aX aK) rfl;have jG:=d.bl.cell 7 (u:=.slice aM aY au) rfl;have jF:=d.br.cell 0 (u:=.int .i64 rk) rfl;have jE:=d.br.cell 1 (u:=.int .i64 0) rfl;have jD:=d.br.cell 2 (u:=.int .i64 ra) rfl;have jC:=d.br.cell 3 (u:=.int .i64 rb) rfl;have jB:=d.br.cell 4 (u:=.bool rg) rfl;have jA:=d.br.cell 5 (u:=.string rn) rfl;have jy:=d.br.cell 6 (u:=.slice aQ bn aP) rfl;have jw:=d.br.cell 7 (u:=.slice aR bq av) rfl;clear d)
   |(go_at_call 94;refine(HTK.out _ _ _ uh.out).mono ?_;rintro e w4⟨rfl,d⟩;have HT6:=qJ d;have jN:=d.bl.cell 0 (u:=.int .i64 lk) rfl;have jM:=d.bl.cell 1 (u:=.int .i64 lm) rfl;have jL:=d.bl.cell 2 (u:=.int .i64 la) rfl;have jK:=d.bl.cell 3 (u:=.int .i64 lb) rfl;have jJ:=d.bl.cell 4 (u:=.bool lg) rfl;have jI:=d.bl.cell 5 (u:=.string ln) rfl;have jH:=d.bl.cell 6 (u:=.slice aL aX aK) rfl;have jG:=d.bl.cell 7 (u:=.slice aM aY au) rfl;have jF:=d.br.cell 0 (u:=.int .i64 rk) rfl;have jE:=d.br.cell 1 (u:=.int .i64 0) rfl;have jD:=d.br.cell 2 (u:=.int .i64 ra) rfl;have jC:=d.br.cell 3 (u:=.int .i64 rb) rfl;have jB:=d.br.cell 4 (u:=.bool rg) rfl;have jA:=d.br.cell 5 (u:=.string rn) rfl;have jy:=d.br.cell 6 (u:=.slice aQ bn aP) rfl;have jw:=d.br.cell 7 (u:=.slice aR bq av) rfl;clear d)
   |(go_at_call_of 113(Value.string ln);refine(HIL.out _ _ _ HT6.out).mono ?_;rintro e w5⟨rfl,d⟩;have HT7:=qJ d;have jN:=d.bl.cell 0 (u:=.int .i64 lk) rfl;have jM:=d.bl.cell 1 (u:=.int .i64 lm) rfl;have jL:=d.bl.cell 2 (u:=.int .i64 la) rfl;have jK:=d.bl.cell 3 (u:=.int .i64 lb) rfl;have jJ:=d.bl.cell 4 (u:=.bool lg) rfl;have jI:=d.bl.cell 5 (u:=.string ln) rfl;have jH:=d.bl.cell 6 (u:=.slice aL aX aK) rfl;have jG:=d.bl.cell 7 (u:=.slice aM aY au) rfl;have jF:=d.br.cell 0 (u:=.int .i64 rk) rfl;have jE:=d.br.cell 1 (u:=.int .i64 0) rfl;have jD:=d.br.cell 2 (u:=.int .i64 ra) rfl;have jC:=d.br.cell 3 (u:=.int .i64 rb) rfl;have jB:=d.br.cell 4 (u:=.bool rg) rfl;have jA:=d.br.cell 5 (u:=.string rn) rfl;have jy:=d.br.cell 6 (u:=.slice aQ bn aP) rfl;have jw:=d.br.cell 7 (u:=.slice aR bq av) rfl;clear d)
   |(go_at_call 95;refine(HWS.out _ _ _ HT7.out).mono ?_;rintro e w6⟨rfl,d⟩;have HT8:=qJ d;have jN:=d.bl.cell 0 (u:=.int .i64 lk) rfl;have jM:=d.bl.cell 1 (u:=.int .i64 lm) rfl;have jL:=d.bl.cell 2 (u:=.int .i64 la) rfl;have jK:=d.bl.cell 3 (u:=.int .i64 lb) rfl;have jJ:=d.bl.cell 4 (u:=.bool lg) rfl;have jI:=d.bl.cell 5 (u:=.string ln) rfl;have jH:=d.bl.cell 6 (u:=.slice aL aX aK) rfl;have jG:=d.bl.cell 7 (u:=.slice aM aY au) rfl;have jF:=d.br.cell 0 (u:=.int .i64 rk) rfl;have jE:=d.br.cell 1 (u:=.int .i64 0) rfl;have jD:=d.br.cell 2 (u:=.int .i64 ra) rfl;have jC:=d.br.cell 3 (u:=.int .i64 rb) rfl;have jB:=d.br.cell 4 (u:=.bool rg) rfl;have jA:=d.br.cell 5 (u:=.string rn) rfl;have jy:=d.br.cell 6 (u:=.slice aQ bn aP) rfl;have jw:=d.br.cell 7 (u:=.slice aR bq av) rfl;clear d)
   |(go_at_call_of 113(Value.string rn);refine(HIR.out _ _ _ HT8.out).mono ?_;rintro e w9⟨rfl,d1,d2⟩;have HT1:Hid (∀s',_=some s'→Cx w0 w9 base g s'):=d1;have HT2:Hid (Kt base W w9):=d2;clear d1 d2))
  go_ret
  exact⟨ag (by first|rfl|simp),HT1.out,HT2.out⟩
 ·clear k0 k1 k2 k3 k4 k5 k6 k7 j0 j1 j2 j3 j4 j5 j6 j7
  have HT0:Hid (SW w0 W base g W.heap.size #[.int .i64 k,.int .i64 m,.int .i64 a,.int .i64 b,.bool ng,.string n,.slice sa sl sc,.slice (some ⟨kb,ko,none⟩) 2 cap] (W.heap.size+1+1) #[.int .i64 lk,.int .i64 lm,.int .i64 la,.int .i64 lb,.bool lg,.string ln,.slice aL aX aK,.slice aM aY au] (W.heap.size+1) #[.int .i64 rk,.int .i64 0,.int .i64 ra,.int .i64 rb,.bool rg,.string rn,.slice aQ bn aP,.slice aR bq av] s (((W.alloc (.cells #[.int .i64 k,.int .i64 m,.int .i64 a,.int .i64 b,.bool ng,.string n,.slice sa sl sc,.slice (some ⟨kb,ko,none⟩) 2 cap] 26)).alloc (.cells #[.int .i64 rk,.int .i64 0,.int .i64 ra,.int .i64 rb,.bool rg,.string rn,.slice aQ bn aP,.slice aR bq av] 26)).alloc (.cells #[.int .i64 lk,.int .i64 lm,.int .i64 la,.int .i64 lb,.bool lg,.string ln,.slice aL aX aK,.slice aM aY au] 26)).drew):=SW.o7 HS.out (by simp)
  go_wp2_with(first
   |(go_at_call 159;refine(AY.out _ _ _ HT0.out).mono ?_;rintro e w1⟨rfl,d⟩;have HT3:=qJ d;have jN:=d.bl.cell 0 (u:=.int .i64 lk) rfl;have jM:=d.bl.cell 1 (u:=.int .i64 lm) rfl;have jL:=d.bl.cell 2 (u:=.int .i64 la) rfl;have jK:=d.bl.cell 3 (u:=.int .i64 lb) rfl;have jJ:=d.bl.cell 4 (u:=.bool lg) rfl;have jI:=d.bl.cell 5 (u:=.string ln) rfl;have jH:=d.bl.cell 6 (u:=.slice aL aX aK) rfl;have jG:=d.bl.cell 7 (u:=.slice aM aY au) rfl;have jF:=d.br.cell 0 (u:=.int .i64 rk) rfl;have jE:=d.br.cell 1 (u:=.int .i64 0) rfl;have jD:=d.br.cell 2 (u:=.int .i64 ra) rfl;have jC:=d.br.cell 3 (u:=.int .i64 rb) rfl;have jB:=d.br.cell 4 (u:=.bool rg) rfl;have jA:=d.br.cell 5 (u:=.string rn) rfl;have jy:=d.br.cell 6 (u:=.slice aQ bn aP) rfl;have jw:=d.br.cell 7 (u:=.slice aR bq av) rfl;clear d)
   |(go_at_call_of 160(Value.string ln);refine(AU.out _ _ _ HT3.out).mono ?_;rintro e w2⟨rfl,d⟩;have tY:=qJ d;have jN:=d.bl.cell 0 (u:=.int .i64 lk) rfl;have jM:=d.bl.cell 1 (u:=.int .i64 lm) rfl;have jL:=d.bl.cell 2 (u:=.int .i64 la) rfl;have jK:=d.bl.cell 3 (u:=.int .i64 lb) rfl;have jJ:=d.bl.cell 4 (u:=.bool lg) rfl;have jI:=d.bl.cell 5 (u:=.string ln) rfl;have jH:=d.bl.cell 6 (u:=.slice aL aX aK) rfl;have jG:=d.bl.cell 7 (u:=.slice aM aY au) rfl;have jF:=d.br.cell 0 (u:=.int .i64 rk) rfl;have jE:=d.br.cell 1 (u:=.int .i64 0) rfl;have jD:=d.br.cell 2 (u:=.int .i64 ra) rfl;have jC:=d.br.cell 3 (u:=.int .i64 rb) rfl;have jB:=d.br.cell 4 (u:=.bool rg) rfl;have jA:=d.br.cell 5 (u:=.string rn) rfl;have jy:=d.br.cell 6 (u:=.slice aQ bn aP) rfl;have jw:=d.br.cell 7 (u:=.slice aR bq av) rfl;clear d)
   |(go_at_call_of 160(Value.string rn);refine(EK.out _ _ _ tY.out).mono ?_;rintro e w3⟨rfl,d⟩;have uh:=qJ d;have jN:=d.bl.cell 0 (u:=.int .i64 lk) rfl;have jM:=d.bl.cell 1 (u:=.int .i64 lm) rfl;have jL:=d.bl.cell 2 (u:=.int .i64 la) rfl;have jK:=d.bl.cell 3 (u:=.int .i64 lb) rfl;have jJ:=d.bl.cell 4 (u:=.bool lg) rfl;have jI:=d.bl.cell 5 (u:=.string ln) rfl;have jH:=d.bl.cell 6 (u:=.slice aL aX aK) rfl;have jG:=d.bl.cell 7 (u:=.slice aM aY au) rfl;have jF:=d.br.cell 0 (u:=.int .i64 rk) rfl;have jE:=d.br.cell 1 (u:=.int .i64 0) rfl;have jD:=d.br.cell 2 (u:=.int .i64 ra) rfl;have jC:=d.br.cell 3 (u:=.int .i64 rb) rfl;have jB:=d.br.cell 4 (u:=.bool rg) rfl;have jA:=d.br.cell 5 (u:=.string rn) rfl;have jy:=d.br.cell 6 (u:=.slice aQ bn aP) rfl;have jw:=d.br.cell 7 (u:=.slice aR bq av) rfl;clear d)
   |(go_at_call 94;refine(HTK.out _ _ _ uh.out).mono ?_;rintro e w4⟨rfl,d⟩;have HT6:=qJ d;have jN:=d.bl.cell 0 (u:=.int .i64 lk) rfl;have jM:=d.bl.cell 1 (u:=.int .i64 lm) rfl;have jL:=d.bl.cell 2 (u:=.int .i64 la) rfl;have jK:=d.bl.cell 3 (u:=.int .i64 lb) rfl;have jJ:=d.bl.cell 4 (u:=.bool lg) rfl;have jI:=d.bl.cell 5 (u:=.string ln) rfl;have jH:=d.bl.cell 6 (u:=.slice aL aX aK) rfl;have jG:=d.bl.cell 7 (u:=.slice aM aY au) rfl;have jF:=d.br.cell 0 (u:=.int .i64 rk) rfl;have jE:=d.br.cell 1 (u:=.int .i64 0) rfl;have jD:=d.br.cell 2 (u:=.int .i64 ra) rfl;have jC:=d.br.cell 3 (u:=.int .i64 rb) rfl;have jB:=d.br.cell 4 (u:=.bool rg) rfl;have jA:=d.br.cell 5 (u:=.string rn) rfl;have jy:=d.br.cell 6 (u:=.slice aQ bn aP) rfl;have jw:=d.br.cell 7 (u:=.slice aR bq av) rfl;clear d)
   |(go_at_call_of 113(Value.string ln);refine(HIL.out _ _ _ HT6.out).mono ?_;rintro e w5⟨rfl,d⟩;have HT7:=qJ d;have jN:=d.bl.cell 0 (u:=.int .i64 lk) rfl;have jM:=d.bl.cell 1 (u:=.int .i64 lm) rfl;have jL:=d.bl.cell 2 (u:=.int .i64 la) rfl;have jK:=d.bl.cell 3 (u:=.int .i64 lb) rfl;have jJ:=d.bl.cell 4 (u:=.bool lg) rfl;have jI:=d.bl.cell 5 (u:=.string ln) rfl;have jH:=d.bl.cell 6 (u:=.slice aL aX aK) rfl;have jG:=d.bl.cell 7 (u:=.slice aM aY au) rfl;have jF:=d.br.cell 0 (u:=.int .i64 rk) rfl;have jE:=d.br.cell 1 (u:=.int .i64 0) rfl;have jD:=d.br.cell 2 (u:=.int .i64 ra) rfl;have jC:=d.br.cell 3 (u:=.int .i64 rb) rfl;have jB:=d.br.cell 4 (u:=.bool rg) rfl;have jA:=d.br.cell 5 (u:=.string rn) rfl;have jy:=d.br.cell 6 (u:=.slice aQ bn aP) rfl;have jw:=d.br.cell 7 (u:=.slice aR bq av) rfl;clear d)
   |(go_at_call 95;refine(HWS.out _ _ _ HT7.out).mono ?_;rintro e w6⟨rfl,d⟩;have HT8:=qJ d;have jN:=d.bl.cell 0 (u:=.int .i64 lk) rfl;have jM:=d.bl.cell 1 (u:=.int .i64 lm) rfl;have jL:=d.bl.cell 2 (u:=.int .i64 la) rfl;have jK:=d.bl.cell 3 (u:=.int .i64 lb) rfl;have jJ:=d.bl.cell 4 (u:=.bool lg) rfl;have jI:=d.bl.cell 5 (u:=.string ln) rfl;have jH:=d.bl.cell 6 (u:=.slice aL aX aK) rfl;have jG:=d.bl.cell 7 (u:=.slice aM aY au) rfl;have jF:=d.br.cell 0 (u:=.int .i64 rk) rfl;have jE:=d.br.cell 1 (u:=.int .i64 0) rfl;have jD:=d.br.cell 2 (u:=.int .i64 ra) rfl;have jC:=d.br.cell 3 (u:=.int .i64 rb) rfl;have jB:=d.br.cell 4 (u:=.bool rg) rfl;have jA:=d.br.cell 5 (u:=.string rn) rfl;have jy:=d.br.cell 6 (u:=.slice aQ bn aP) rfl;have jw:=d.br.cell 7 (u:=.slice aR bq av) rfl;clear d)
   |(go_at_call_of 113(Value.string rn);refine(HIR.out _ _ _ HT8.out).mono ?_;rintro e w9⟨rfl,d1,d2⟩;have HT1:Hid (∀s',_=some s'→Cx w0 w9 base g s'):=d1;have HT2:Hid (Kt base W w9):=d2;clear d1 d2))
  go_ret
  exact⟨ag (by first|rfl|simp),HT1.out,HT2.out⟩
end Go.Proofs.YtgbkolonhddolaaGreatDoor.tre
section
namespace Go.Proofs.YtgbkolonhddolaaGreatDoor.tre
open Go.RowKit nod
open rng(R RV)
open tok(PEnv TX ak)
theorem ku(r:Int)(c:Bool):(TX (ak r c)).size≤9223372036854775807:=by
 have he:(utf.enc r).length≤4:=by unfold utf.enc;(repeat' split)<;>simp
 have hh:(tok.il r).length≤2:=by unfold tok.il;split<;>simp
 rw[tok.oL]
 unfold tok.ak
 (repeat' split)<;>simp<;>omega
theorem Kq{B:Nat}{w:World}{ao:Option Addr}{ks:List Nd}(h:KV B w ao ks)(h0:0<ks.length):∃kb ko,ao=some ⟨kb,ko,none⟩∧kb<B∧II B w kb ko ks:=by
 obtain⟨b,o,e,hk⟩:=h.some h0
 exact⟨b,o,e,hk.1,hk⟩
/-! What the plain functions are, kind by kind. -/
section
variable{ins:Wr→Nd→Option Wr}{s:Wr}{t:Nd}
theorem Gu(ho:othersZ t=false):cz ins s t=none:=by unfold cz;rw[if_pos ho]
theorem Gt(ho:othersZ t=true)(hk:t.kind=1):cz ins s t=aN s (TX (ak t.a true)):=by unfold cz;rw[if_neg (by simp[ho]),if_pos hk]
theorem Gr(ho:othersZ t=true)(hk:t.kind=4):cz ins s t=pE s t.a t.b:=by unfold cz;rw[if_neg (by simp[ho]),if_neg (by omega),if_pos hk]
theorem Gq(ho:othersZ t=true)(hk:t.kind=5):cz ins s t=iD s t.name t.neg:=by unfold cz;rw[if_neg (by simp[ho]),if_neg (by omega),if_neg (by omega),if_pos hk]
theorem Gs(ho:othersZ t=true)(hk:t.kind=3):cz ins s t=nN ins s t:=by unfold cz;rw[if_neg (by simp[ho]),if_neg (by omega),if_neg (by omega),if_neg (by omega),if_pos hk]
theorem Gp(ho:othersZ t=true)(h1:¬t.kind=1)(h4:¬t.kind=4)(h5:¬t.kind=5)(h3:¬t.kind=3):cz ins s t=none:=by unfold cz;rw[if_neg (by simp[ho]),if_neg h1,if_neg h4,if_neg h5,if_neg h3]
theorem GL{N:Nat}(hm:t.mode=0):insideO (N+1) s t=if t.kids.length=0 then none else loopO (cz (insideO N)) t.kids s:=by rw[insideO,if_pos hm]
theorem pW{N:Nat}(h0:¬t.mode=0)(hm:t.mode=1∨t.mode=2∨t.mode=3):insideO (N+1) s t=sidesO (insideO N) s t.mode t.kids:=by rw[insideO,if_neg h0,if_pos hm]
theorem GK{N:Nat}(h0:¬t.mode=0)(hm:¬(t.mode=1∨t.mode=2∨t.mode=3)):insideO (N+1) s t=none:=by rw[insideO,if_neg h0,if_neg hm]
end
theorem vW{ins:Wr→Nd→Option Wr}(hr:qh ins){t:Nd}(hI:Con 113 ins t):Con 87 (nN ins) t:=by
 intro w0 W base g s v c hv
 obtain⟨k,m,a,b,ng,n,st,ks,sa,sc,ao,cap,rfl,rfl,_⟩:=hv.open
 cases ng
 ·exact Ao c k m a b n sa _ sc ao _ cap (fun s'=>ins s' _) (fun W' s' c'=>hI w0 W' base g s' _ c' hv) (fun s1 s2 h g=>(hr _ s1 s2 h g).dep)
 ·exact Dr c k m a b n sa _ sc ao _ cap (fun s'=>ins s' _) (fun W' s' c'=>hI w0 W' base g s' _ c' hv) (fun s1 s2 h g=>(hr _ s1 s2 h g).dep)
theorem Dp{ins:Wr→Nd→Option Wr}(hr:qh ins){t:Nd}(hs:shortN t)(hI:Con 113 ins t):Con 158 (cz ins) t:=by
 intro w0 W base g s v c hv
 have hC:=vW hr hI w0
 obtain⟨k,m,a,b,ng,n,st,ks,sa,sc,ao,cap,rfl,rfl,_,_⟩:=hv.open
 rw[shortN]at hs
 cases ho:othersZ (.mk k m a b ng n st ks)with
 |false=>
  rw[Gu ho]
  exact Gn c k m a b ng n sa _ sc ao _ cap st ks rfl rfl ho none rfl
 |true=>
  by_cases c1:k=1
  ·subst c1;rw[Gt ho rfl]
   exact J8 c m a b ng n sa _ sc ao _ cap st ks rfl rfl ho (ku _ _)
  by_cases c4:k=4
  ·subst c4;rw[Gr ho rfl]
   exact J6 c m a b ng n sa _ sc ao _ cap st ks rfl rfl ho (ku _ _) (ku _ _)
  by_cases c5:k=5
  ·subst c5;rw[Gq ho rfl]
   exact J5 c m a b ng n sa _ sc ao _ cap st ks rfl rfl ho hs.1
  by_cases c3:k=3
  ·subst c3;rw[Gs ho rfl]
   exact J7 c m a b ng n sa _ sc ao _ cap st ks rfl rfl ho _ (fun W' c'=>hC W' base g s _ c' hv)
  rw[Gp ho c1 c4 c5 c3]
  exact xq c k m a b ng n sa _ sc ao _ cap st ks rfl rfl ho none rfl (by simpa using c1) (by simpa using c4) (by simpa using c5) (by simpa using c3)
theorem Ja{α:Type}(l:List α)(h:l.length=2):∃x y,l=[x,y]:=by
 match l,h with
 |[x,y],_=>exact⟨x,y,rfl⟩
theorem zt{α:Type}(l:List α)(h:l.length=1):∃x,l=[x]:=by
 match l,h with
 |[x],_=>exact⟨x,rfl⟩
/--A kid of a row: its block's cells. -/
theorem xw{B:Nat}{w:World}{b off i:Nat}{ks:List Nd}{t:Nd}(h:II B w b off ks)(hi:ks[i]?=some t):∃k m a b' g n s kk sa sc ao cap,t=.mk k m a b' g n s kk∧
  nE w b (off+i*8) (.agg #[.int .i64 k,.int .i64 m,.int .i64 a,.int .i64 b',.bool g,.string n,.slice sa s.length sc,.slice ao kk.length cap])∧NV B w t (.agg #[.int .i64 k,.int .i64 m,.int .i64 a,.int .i64 b',.bool g,.string n,.slice sa s.length sc,.slice ao kk.length cap]):=by
 obtain⟨v,h1,h2⟩:=h.2 i t hi
 obtain⟨k,m,a,b',g,n,s,kk,sa,sc,ao,cap,rfl,rfl,_⟩:=h2.open
 exact⟨k,m,a,b',g,n,s,kk,sa,sc,ao,cap,rfl,h1,h2⟩
theorem p9{ins:Wr→Nd→Option Wr}(hr:qh ins){k m a b:Int}{ng:Bool}{n:ByteArray}{st:List R}{ks:List Nd}(hm:m=1∨m=2∨m=3)(hI:∀x∈ks,Con 113 ins x){w0 W:World}{base g:Nat}{s:Wr}{v:Value}(c:Cx w0 W base g s)(hv:NV base w0 (.mk k m a b ng n st ks) v):
  Met 137 #[.pointer (some ⟨g,0,none⟩),v] w0 W base g (sidesO ins s m ks):=by
 obtain⟨k,m,a,b,ng,n,st,ks,sa,sc,ao,cap,e,rfl,_,_,_,hk1,hk2,_,yu⟩:=hv.open
 cases e
 by_cases hl:ks.length=2
 ·obtain⟨x,y,rfl⟩:=Ja ks hl
  obtain⟨kb,ko,rfl,hkb,hka⟩:=Kq yu (by simp)
  obtain⟨lk,lm,la,lb,lg,ln,ls,A8,aL,aK,aM,au,rfl,al,nl⟩:=xw hka (i:=0) rfl
  obtain⟨rk,rm,ra,rb,rg,rn,rs,rkk,aQ,aP,aR,av,rfl,ar,nr⟩:=xw hka (i:=1) rfl
  have al':nE w0 kb ko (.agg #[.int .i64 lk,.int .i64 lm,.int .i64 la,.int .i64 lb,.bool lg,.string ln,.slice aL ls.length aK,.slice aM A8.length au]):=by simpa using al
  have ar':nE w0 kb (ko+8) (.agg #[.int .i64 rk,.int .i64 rm,.int .i64 ra,.int .i64 rb,.bool rg,.string rn,.slice aQ rs.length aP,.slice aR rkk.length av]):=by simpa using ar
  have hcap:2≤cap:=by simpa using hk1
  have IL:=hI (.mk lk lm la lb lg ln ls A8) (by simp) w0
  have IR:=hI (.mk rk rm ra rb rg rn rs rkk) (by simp) w0
  have hO:=JQ hm
  simp only[sidesO,List.length_cons,List.length_nil,Nat.zero_add,Nat.reduceAdd]
  cases hl1:qp (.mk lk lm la lb lg ln ls A8)with
  |false=>
   rw[if_neg (by simp)]
   exact sides_l c k m a b ng n sa _ sc kb ko cap hcap lk lm la lb rk rm ra rb lg rg ln rn aL aM aQ aR _ aK _ au _ aP _ av al' ar' hkb (aV m bC) hO
    (fun p q W' S=>eF S (dh m W')) (fun p q W' S=>hl1▸eF S (bY lk lm la lb lg ln ls A8 aL _ aK aM _ au W' rfl rfl))
  |true=>
  cases hr1:qp (.mk rk rm ra rb rg rn rs rkk)with
  |false=>
   rw[if_neg (by simp)]
   exact sides_r c k m a b ng n sa _ sc kb ko cap hcap lk lm la lb rk rm ra rb lg rg ln rn aL aM aQ aR _ aK _ au _ aP _ av al' ar' hkb (aV m bC) hO
    (fun p q W' S=>eF S (dh m W')) (fun p q W' S=>hl1▸eF S (bY lk lm la lb lg ln ls A8 aL _ aK aM _ au W' rfl rfl)) (fun p q W' S=>hr1▸eF S (bY rk rm ra rb rg rn rs rkk aQ _ aP aR _ av W' rfl rfl))
  |true=>
  by_cases hrm:rm=0
  ·subst hrm
   by_cases GU:0≤s.room-2
   ·rw[if_pos ⟨rfl,rfl,rfl,GU⟩]
    have gl:=Er c.gd GU
    cases h1:ins (s.less 2) (.mk lk lm la lb lg ln ls A8)with
    |none=>
     exact sides_i c k m a b ng n sa _ sc kb ko cap hcap lk lm la lb rk 0 ra rb lg rg ln rn aL aM aQ aR _ aK _ au _ aP _ av al' ar' hkb (aV m bC) hO
      (fun p q W' S=>eF S (dh m W')) (fun p q W' S=>hl1▸eF S (bY lk lm la lb lg ln ls A8 aL _ aK aM _ au W' rfl rfl)) (fun p q W' S=>hr1▸eF S (bY rk 0 ra rb rg rn rs rkk aQ _ aP aR _ av W' rfl rfl))
      (fun p q W' S=>DX S GU) (fun p q W' S=>Met.s2_no (IL W' base g _ _ S.sn.cx nl) h1 S)
    |some s1=>
     have q1:=hr _ _ _ h1 gl
     have es:(s1.text.length:Int)+s1.room=s.text.length+(s.room-2):=q1.sum
     have r1:=c.gd.g.r1
     obtain⟨⟨a0,a1,a2,a3,a4,a5,a6⟩,a7⟩:=q1.gd
     have al:=xR s1 (aV m bC)
     have er:(s1.add (aV m bC)).room=s1.room:=rfl
     have gr:Gd (s1.add (aV m bC)):=⟨⟨a0,by rw[al,er];omega,a2,a3,a4,a5,a6⟩,a7⟩
     exact sides_w c k m a b ng n sa _ sc kb ko cap hcap lk lm la lb rk 0 ra rb lg rg ln rn aL aM aQ aR _ aK _ au _ aP _ av al' ar' hkb (aV m bC) hO s1 _
      (fun p q W' S=>eF S (dh m W')) (fun p q W' S=>hl1▸eF S (bY lk lm la lb lg ln ls A8 aL _ aK aM _ au W' rfl rfl)) (fun p q W' S=>hr1▸eF S (bY rk 0 ra rb rg rn rs rkk aQ _ aP aR _ av W' rfl rfl))
      (fun p q W' S=>DX S GU) (fun p q W' S=>Met.s2_ok (IL W' base g _ _ S.sn.cx nl) h1 S) (fun p q W' S=>IY S _ hO gr) (fun p q W' S=>Met.s2 (IR W' base g _ _ S.sn.cx nr) S)
   ·rw[if_neg (fun h=>GU h.2.2.2)]
    exact sides_t c k m a b ng n sa _ sc kb ko cap hcap lk lm la lb rk 0 ra rb lg rg ln rn aL aM aQ aR _ aK _ au _ aP _ av al' ar' hkb (aV m bC) hO
     (fun p q W' S=>eF S (dh m W')) (fun p q W' S=>hl1▸eF S (bY lk lm la lb lg ln ls A8 aL _ aK aM _ au W' rfl rfl)) (fun p q W' S=>hr1▸eF S (bY rk 0 ra rb rg rn rs rkk aQ _ aP aR _ av W' rfl rfl))
     (fun p q W' S=>Jd S GU)
  ·rw[if_neg (fun h=>hrm h.2.2.1)]
   exact sides_m c k m a b ng n sa _ sc kb ko cap hcap lk lm la lb rk rm ra rb lg rg ln rn aL aM aQ aR _ aK _ au _ aP _ av al' ar' hkb (aV m bC) hO
    (fun p q W' S=>eF S (dh m W')) (fun p q W' S=>hl1▸eF S (bY lk lm la lb lg ln ls A8 aL _ aK aM _ au W' rfl rfl)) (fun p q W' S=>hr1▸eF S (bY rk rm ra rb rg rn rs rkk aQ _ aP aR _ av W' rfl rfl)) hrm
 ·have e:sidesO ins s m ks=none:=by
   match ks,hl with
   |[],_=>rfl
   |[x],_=>rfl
   |[x,y],h=>exact absurd rfl h
   |x::y::z::r,_=>rfl
  rw[e]
  exact mf c k m a b ng n sa _ sc ao _ cap (by omega) hl
theorem Dq:∀(N:Nat)(t:Nd),t.sz≤N+1→shortN t→Con 113 (insideO N) t:=by
 intro N
 induction N with
 |zero=>
  intro t hz hs w0 W base g s v c hv
  obtain⟨k,m,a,b,ng,n,st,ks,sa,sc,ao,cap,rfl,rfl,_,_,_,hk1,hk2,_,yu⟩:=hv.open
  rw[Nd.sz]at hz
  have hl:=Es ks
  have h0:ks=[]:=List.eq_nil_of_length_eq_zero (by omega)
  subst h0
  rw[insideO]
  by_cases m0:m=0
  ·subst m0
   exact zJ c k a b ng n sa _ sc ao _ cap none (fun W' c'=>by
    have:=vG c' ao 0 cap [] rfl (Nat.zero_le _) (by unfold maxLen at hk2;omega) yu (fun s' t=>none) (fun t ht=>by cases ht)
    rw[if_pos rfl]at this
    exact this)
  by_cases m1:m=1
  ·subst m1;exact zI c k a b ng n sa _ sc ao _ cap none (fun W' c'=>mf c' k 1 a b ng n sa _ sc ao _ cap (by simp) (by simp))
  by_cases m2:m=2
  ·subst m2;exact zH c k a b ng n sa _ sc ao _ cap none (fun W' c'=>mf c' k 2 a b ng n sa _ sc ao _ cap (by simp) (by simp))
  by_cases m3:m=3
  ·subst m3;exact zG c k a b ng n sa _ sc ao _ cap none (fun W' c'=>mf c' k 3 a b ng n sa _ sc ao _ cap (by simp) (by simp))
  exact vK c k m a b ng n sa _ sc ao _ cap (by simpa using m0) (by simpa using m1) (by simpa using m2) (by simpa using m3)
 |succ N ih=>
  intro t hz hs w0 W base g s v c hv
  have hv0:=hv
  obtain⟨k,m,a,b,ng,n,st,ks,sa,sc,ao,cap,rfl,rfl,_,_,_,hk1,hk2,_,yu⟩:=hv.open
  rw[Nd.sz]at hz
  rw[shortN]at hs
  have hI:∀x∈ks,Con 113 (insideO N) x:=fun x hx=>ih x (by have:=dW hx;omega) (cK hs.2 hx)
  by_cases m0:m=0
  ·subst m0
   rw[GL rfl]
   exact zJ c k a b ng n sa _ sc ao _ cap _ (fun W' c'=>vG c' ao ks.length cap ks rfl hk1 (by unfold maxLen at hk2;omega) yu (cz (insideO N)) (fun t ht W'' s' v c'' hv'=>Dp (dJ N) (cK hs.2 ht) (hI t ht) w0 W'' base g s' v c'' hv'))
  by_cases m1:m=1
  ·subst m1;rw[pW (t:=.mk k 1 a b ng n st ks) m0 (.inl rfl)];exact zI c k a b ng n sa _ sc ao _ cap _ (fun W' c'=>p9 (dJ N) (.inl rfl) hI c' hv0)
  by_cases m2:m=2
  ·subst m2;rw[pW (t:=.mk k 2 a b ng n st ks) m0 (.inr (.inl rfl))];exact zH c k a b ng n sa _ sc ao _ cap _ (fun W' c'=>p9 (dJ N) (.inr (.inl rfl)) hI c' hv0)
  by_cases m3:m=3
  ·subst m3;rw[pW (t:=.mk k 3 a b ng n st ks) m0 (.inr (.inr rfl))];exact zG c k a b ng n sa _ sc ao _ cap _ (fun W' c'=>p9 (dJ N) (.inr (.inr rfl)) hI c' hv0)
  rw[GK (t:=.mk k m a b ng n st ks) m0 (by show¬(m=1∨m=2∨m=3);omega)]
  exact vK c k m a b ng n sa _ sc ao _ cap (by simpa using m0) (by simpa using m1) (by simpa using m2) (by simpa using m3)
end Go.Proofs.YtgbkolonhddolaaGreatDoor.tre
end
