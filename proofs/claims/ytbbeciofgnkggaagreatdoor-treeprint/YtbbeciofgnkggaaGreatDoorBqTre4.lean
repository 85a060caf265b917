import Derived.Test.YtbbeciofgnkggaaGreatDoorBqTre3
import Derived.Test.YtbbeciofgnkggaaGreatDoorBqNod1
set_option linter.unusedSimpArgs false
set_option linter.unusedVariables false
set_option maxRecDepth 10000
set_option maxHeartbeats 2000000
namespace Go.Proofs.YtbbeciofgnkggaaGreatDoor.tre
open Go.RowKit nod
open rng(R RV ret_int ret_bool below_drewN info_parts own_below')
open tok(PEnv TX printL)
theorem enclosed_no{w0 W:World}{base g:Nat}{s:Wr}(c:Cx w0 W base g s)(op:ByteArray)(k m a b:Int)(ng:Bool)(n:ByteArray)(sa:Option Addr)(sl sc:Nat)(ao:Option Addr)(nk cap:Nat)(hk:¬(nk:Int)=1)(hk2:¬nk=1):Met 45 #[.pointer (some ⟨g,0,none⟩),.string op,.agg (n8 k m a b ng n sa sl sc ao nk cap)] w0 W base g (none):=by
 have HS:=Sn.st c (n8 k m a b ng n sa sl sc ao nk cap)
 unfold Met
 clear c
 go_enter Tryz.func45,Tryz.ntmps45
 go_wp2
 go_ret
 exact met_no (rfl) HS.out.kt
theorem enclosed_w{w0 W:World}{base g:Nat}{s:Wr}(c:Cx w0 W base g s)(op:ByteArray)(hop:op.size≤9223372036854775807)(k m a b:Int)(ng:Bool)(n:ByteArray)(sa:Option Addr)(sl sc:Nat)(kb ko cap:Nat)(hcap:1≤cap)(c0 c1 c2 c3 c4 c5 c6 c7:Value)(HA:Hid (At8 w0 kb ko (.agg #[c0,c1,c2,c3,c4,c5,c6,c7])))(hkb:kb<base)(Pb:Wr→Option Wr)(HI:Hid (∀W' s',Cx w0 W' base g s'→Met 16 #[.pointer (some ⟨g,0,none⟩),.agg #[c0,c1,c2,c3,c4,c5,c6,c7]] w0 W' base g (Pb s')))(hd:∀s1 s2,Pb s1=some s2→Gd s1→s2.depth=s1.depth):Met 45 #[.pointer (some ⟨g,0,none⟩),.string op,.agg (n8 k m a b ng n sa sl sc (some ⟨kb,ko,none⟩) 1 cap)] w0 W base g ((enterO s op).bind fun s1=>(Pb s1).bind fun s2=>leaveO s2 ⟨#[41]⟩):=by
 have HS:=Sn.st c (n8 k m a b ng n sa sl sc (some ⟨kb,ko,none⟩) 1 cap)
 have hgb:=c.c.size
 unfold Met
 cases h1:enterO s op with
 |none=>
  have HE:Hid (Cn w0 W base g (n8 k m a b ng n sa sl sc (some ⟨kb,ko,none⟩) 1 cap) s 57 #[.pointer (some ⟨g,0,none⟩),.string op] (.bool false)):=fun W' S=>Met.sn_no (enter_met S.cx _ hop) h1 S
  clear c h1
  go_enter Tryz.func45,Tryz.ntmps45
  go_wp2_with(first
   |(go_at_call 57;refine(HE.out _ HS.out).mono ?_;rintro e w1⟨rfl,d⟩;have HZ:Hid (Kt base W w1):=d;clear d))
  go_ret
  exact met_no (rfl) HZ.out
 |some s1=>
  have HE:Hid (Cs w0 W base g (n8 k m a b ng n sa sl sc (some ⟨kb,ko,none⟩) 1 cap) s s1 57 #[.pointer (some ⟨g,0,none⟩),.string op] (.bool true)):=fun W' S=>Met.sn_ok (enter_met S.cx _ hop) h1 S
  have hg:=enter_gd h1 c.gd
  simp only[Option.bind_some]
  cases h2:Pb s1 with
  |none=>
   have HJ:Hid (Cn w0 W base g (n8 k m a b ng n sa sl sc (some ⟨kb,ko,none⟩) 1 cap) s1 16 #[.pointer (some ⟨g,0,none⟩),.agg #[c0,c1,c2,c3,c4,c5,c6,c7]] (.bool false)):=fun W' S=>Met.sn_no (HI.out W' s1 S.cx) h2 S
   clear c h1 h2 HI hg
   go_enter Tryz.func45,Tryz.ntmps45
   go_wp2_with(first
    |(go_at_call 57;refine(HE.out _ HS.out).mono ?_;rintro e w1⟨rfl,d⟩;have HS1:Hid (Sn w0 W base g W.heap.size (n8 k m a b ng n sa sl sc (some ⟨kb,ko,none⟩) 1 cap) s1 w1):=d;obtain⟨x0,x1,x2,x3,x4,x5,x6,x7⟩:=Bk.c8 d.bk;obtain⟨k0,k1,k2,k3,k4,k5,k6,k7⟩:=d.kid HA.out hkb;clear d)
    |(go_at_call 16;refine(HJ.out _ HS1.out).mono ?_;rintro e w2⟨rfl,d⟩;have HZ:Hid (Kt base W w2):=d;clear d))
   go_ret
   exact met_no (rfl) HZ.out
  |some s2=>
   have HJ:Hid (Cs w0 W base g (n8 k m a b ng n sa sl sc (some ⟨kb,ko,none⟩) 1 cap) s1 s2 16 #[.pointer (some ⟨g,0,none⟩),.agg #[c0,c1,c2,c3,c4,c5,c6,c7]] (.bool true)):=fun W' S=>Met.sn_ok (HI.out W' s1 S.cx) h2 S
   have hd2:=hd s1 s2 h2 hg.1
   have hl:1≤s2.depth:=by have:=hg.2;have:=c.gd.g.d0;omega
   simp only[Option.bind_some]
   have HP:Hid (Cp w0 W base g (n8 k m a b ng n sa sl sc (some ⟨kb,ko,none⟩) 1 cap) s2 59 #[.pointer (some ⟨g,0,none⟩),.string ⟨#[41]⟩] (leaveO s2 ⟨#[41]⟩)):=fun W' S=>Met.sn (leave_met S.cx hl _ (by decide)) S
   generalize leaveO s2 ⟨#[41]⟩=P at*
   clear c h1 h2 HI hg hd2 hl
   go_enter Tryz.func45,Tryz.ntmps45
   go_wp2_with(first
    |(go_at_call 57;refine(HE.out _ HS.out).mono ?_;rintro e w1⟨rfl,d⟩;have HS1:Hid (Sn w0 W base g W.heap.size (n8 k m a b ng n sa sl sc (some ⟨kb,ko,none⟩) 1 cap) s1 w1):=d;obtain⟨x0,x1,x2,x3,x4,x5,x6,x7⟩:=Bk.c8 d.bk;obtain⟨k0,k1,k2,k3,k4,k5,k6,k7⟩:=d.kid HA.out hkb;clear d)
    |(go_at_call 16;refine(HJ.out _ HS1.out).mono ?_;rintro e w2⟨rfl,d⟩;have HS2:Hid (Sn w0 W base g W.heap.size (n8 k m a b ng n sa sl sc (some ⟨kb,ko,none⟩) 1 cap) s2 w2):=d;clear d)
    |(go_at_call 59;refine(HP.out _ HS2.out).mono ?_;rintro e w3⟨rfl,d1,d2⟩;have HT1:Hid (∀s',_=some s'→Cx w0 w3 base g s'):=d1;have HT2:Hid (Kt base W w3):=d2;clear d1 d2))
   go_ret
   exact⟨ret_bool (by first|rfl|simp),HT1.out,HT2.out⟩
theorem body_6{w0 W:World}{base g:Nat}{s:Wr}(c:Cx w0 W base g s)(m a b:Int)(ng:Bool)(n:ByteArray)(sa:Option Addr)(sl sc:Nat)(ao:Option Addr)(nk cap:Nat)(P:Option Wr)(HC:∀W',Cx w0 W' base g s→Met 25 #[.pointer (some ⟨g,0,none⟩),.agg (n8 6 m a b ng n sa sl sc ao nk cap)] w0 W' base g (P)):Met 16 #[.pointer (some ⟨g,0,none⟩),.agg (n8 6 m a b ng n sa sl sc ao nk cap)] w0 W base g (P):=by
 have HS:=Sn.st c (n8 6 m a b ng n sa sl sc ao nk cap)
 have HP:Hid (Cp w0 W base g (n8 6 m a b ng n sa sl sc ao nk cap) s 25 #[.pointer (some ⟨g,0,none⟩),.agg (n8 6 m a b ng n sa sl sc ao nk cap)] P):=fun W' S=>Met.sn (HC W' S.cx) S
 unfold Met
 clear c HC
 go_enter Tryz.func16,Tryz.ntmps16
 go_wp2_with(first
  |(go_at_call 25;refine(HP.out _ HS.out).mono ?_;rintro e w9⟨rfl,d1,d2⟩;have HT1:Hid (∀s',_=some s'→Cx w0 w9 base g s'):=d1;have HT2:Hid (Kt base W w9):=d2;clear d1 d2))
 go_ret
 exact⟨ret_bool (by first|rfl|simp),HT1.out,HT2.out⟩
theorem bodyW_7{w0 W:World}{base g:Nat}{s:Wr}(c:Cx w0 W base g s)(m a b:Int)(ng:Bool)(n:ByteArray)(sa:Option Addr)(sl sc:Nat)(ao:Option Addr)(nk cap:Nat)(P:Option Wr)(HC:∀W',Cx w0 W' base g s→Met 26 #[.pointer (some ⟨g,0,none⟩),.agg (n8 7 m a b ng n sa sl sc ao nk cap)] w0 W' base g (P)):Met 16 #[.pointer (some ⟨g,0,none⟩),.agg (n8 7 m a b ng n sa sl sc ao nk cap)] w0 W base g (P):=by
 have HS:=Sn.st c (n8 7 m a b ng n sa sl sc ao nk cap)
 have HP:Hid (Cp w0 W base g (n8 7 m a b ng n sa sl sc ao nk cap) s 26 #[.pointer (some ⟨g,0,none⟩),.agg (n8 7 m a b ng n sa sl sc ao nk cap)] P):=fun W' S=>Met.sn (HC W' S.cx) S
 unfold Met
 clear c HC
 go_enter Tryz.func16,Tryz.ntmps16
 go_wp2_with(first
  |(go_at_call 26;refine(HP.out _ HS.out).mono ?_;rintro e w9⟨rfl,d1,d2⟩;have HT1:Hid (∀s',_=some s'→Cx w0 w9 base g s'):=d1;have HT2:Hid (Kt base W w9):=d2;clear d1 d2))
 go_ret
 exact⟨ret_bool (by first|rfl|simp),HT1.out,HT2.out⟩
theorem bodyW_no{w0 W:World}{base g:Nat}{s:Wr}(c:Cx w0 W base g s)(k m a b:Int)(ng:Bool)(n:ByteArray)(sa:Option Addr)(sl sc:Nat)(ao:Option Addr)(nk cap:Nat)(k6:(k==6)=false)(k7:(k==7)=false):Met 16 #[.pointer (some ⟨g,0,none⟩),.agg (n8 k m a b ng n sa sl sc ao nk cap)] w0 W base g (none):=by
 have HS:=Sn.st c (n8 k m a b ng n sa sl sc ao nk cap)
 unfold Met
 clear c
 go_enter Tryz.func16,Tryz.ntmps16
 go_wp2
 go_ret
 exact met_no (rfl) HS.out.kt
theorem inside_0{w0 W:World}{base g:Nat}{s:Wr}(c:Cx w0 W base g s)(k a b:Int)(ng:Bool)(n:ByteArray)(sa:Option Addr)(sl sc:Nat)(ao:Option Addr)(nk cap:Nat)(P:Option Wr)(HC:∀W',Cx w0 W' base g s→Met 78 #[.pointer (some ⟨g,0,none⟩),.slice ao nk cap] w0 W' base g (P)):Met 58 #[.pointer (some ⟨g,0,none⟩),.agg (n8 k 0 a b ng n sa sl sc ao nk cap)] w0 W base g (P):=by
 have HS:=Sn.st c (n8 k 0 a b ng n sa sl sc ao nk cap)
 have HP:Hid (Cp w0 W base g (n8 k 0 a b ng n sa sl sc ao nk cap) s 78 #[.pointer (some ⟨g,0,none⟩),.slice ao nk cap] P):=fun W' S=>Met.sn (HC W' S.cx) S
 unfold Met
 clear c HC
 go_enter Tryz.func58,Tryz.ntmps58
 go_wp2_with(first
  |(go_at_call 78;refine(HP.out _ HS.out).mono ?_;rintro e w9⟨rfl,d1,d2⟩;have HT1:Hid (∀s',_=some s'→Cx w0 w9 base g s'):=d1;have HT2:Hid (Kt base W w9):=d2;clear d1 d2))
 go_ret
 exact⟨ret_bool (by first|rfl|simp),HT1.out,HT2.out⟩
theorem inside_1{w0 W:World}{base g:Nat}{s:Wr}(c:Cx w0 W base g s)(k a b:Int)(ng:Bool)(n:ByteArray)(sa:Option Addr)(sl sc:Nat)(ao:Option Addr)(nk cap:Nat)(P:Option Wr)(HC:∀W',Cx w0 W' base g s→Met 79 #[.pointer (some ⟨g,0,none⟩),.agg (n8 k 1 a b ng n sa sl sc ao nk cap)] w0 W' base g (P)):Met 58 #[.pointer (some ⟨g,0,none⟩),.agg (n8 k 1 a b ng n sa sl sc ao nk cap)] w0 W base g (P):=by
 have HS:=Sn.st c (n8 k 1 a b ng n sa sl sc ao nk cap)
 have HP:Hid (Cp w0 W base g (n8 k 1 a b ng n sa sl sc ao nk cap) s 79 #[.pointer (some ⟨g,0,none⟩),.agg (n8 k 1 a b ng n sa sl sc ao nk cap)] P):=fun W' S=>Met.sn (HC W' S.cx) S
 unfold Met
 clear c HC
 go_enter Tryz.func58,Tryz.ntmps58
 go_wp2_with(first
  |(go_at_call 79;refine(HP.out _ HS.out).mono ?_;rintro e w9⟨rfl,d1,d2⟩;have HT1:Hid (∀s',_=some s'→Cx w0 w9 base g s'):=d1;have HT2:Hid (Kt base W w9):=d2;clear d1 d2))
 go_ret
 exact⟨ret_bool (by first|rfl|simp),HT1.out,HT2.out⟩
theorem inside_2{w0 W:World}{base g:Nat}{s:Wr}(c:Cx w0 W base g s)(k a b:Int)(ng:Bool)(n:ByteArray)(sa:Option Addr)(sl sc:Nat)(ao:Option Addr)(nk cap:Nat)(P:Option Wr)(HC:∀W',Cx w0 W' base g s→Met 79 #[.pointer (some ⟨g,0,none⟩),.agg (n8 k 2 a b ng n sa sl sc ao nk cap)] w0 W' base g (P)):Met 58 #[.pointer (some ⟨g,0,none⟩),.agg (n8 k 2 a b ng n sa sl sc ao nk cap)] w0 W base g (P):=by
 have HS:=Sn.st c (n8 k 2 a b ng n sa sl sc ao nk cap)
 have HP:Hid (Cp w0 W base g (n8 k 2 a b ng n sa sl sc ao nk cap) s 79 #[.pointer (some ⟨g,0,none⟩),.agg (n8 k 2 a b ng n sa sl sc ao nk cap)] P):=fun W' S=>Met.sn (HC W' S.cx) S
 unfold Met
 clear c HC
 go_enter Tryz.func58,Tryz.ntmps58
 go_wp2_with(first
  |(go_at_call 79;refine(HP.out _ HS.out).mono ?_;rintro e w9⟨rfl,d1,d2⟩;have HT1:Hid (∀s',_=some s'→Cx w0 w9 base g s'):=d1;have HT2:Hid (Kt base W w9):=d2;clear d1 d2))
 go_ret
 exact⟨ret_bool (by first|rfl|simp),HT1.out,HT2.out⟩
theorem inside_3{w0 W:World}{base g:Nat}{s:Wr}(c:Cx w0 W base g s)(k a b:Int)(ng:Bool)(n:ByteArray)(sa:Option Addr)(sl sc:Nat)(ao:Option Addr)(nk cap:Nat)(P:Option Wr)(HC:∀W',Cx w0 W' base g s→Met 79 #[.pointer (some ⟨g,0,none⟩),.agg (n8 k 3 a b ng n sa sl sc ao nk cap)] w0 W' base g (P)):Met 58 #[.pointer (some ⟨g,0,none⟩),.agg (n8 k 3 a b ng n sa sl sc ao nk cap)] w0 W base g (P):=by
 have HS:=Sn.st c (n8 k 3 a b ng n sa sl sc ao nk cap)
 have HP:Hid (Cp w0 W base g (n8 k 3 a b ng n sa sl sc ao nk cap) s 79 #[.pointer (some ⟨g,0,none⟩),.agg (n8 k 3 a b ng n sa sl sc ao nk cap)] P):=fun W' S=>Met.sn (HC W' S.cx) S
 unfold Met
 clear c HC
 go_enter Tryz.func58,Tryz.ntmps58
 go_wp2_with(first
  |(go_at_call 79;refine(HP.out _ HS.out).mono ?_;rintro e w9⟨rfl,d1,d2⟩;have HT1:Hid (∀s',_=some s'→Cx w0 w9 base g s'):=d1;have HT2:Hid (Kt base W w9):=d2;clear d1 d2))
 go_ret
 exact⟨ret_bool (by first|rfl|simp),HT1.out,HT2.out⟩
theorem inside_no{w0 W:World}{base g:Nat}{s:Wr}(c:Cx w0 W base g s)(k m a b:Int)(ng:Bool)(n:ByteArray)(sa:Option Addr)(sl sc:Nat)(ao:Option Addr)(nk cap:Nat)(m0:(m==0)=false)(m1:(m==1)=false)(m2:(m==2)=false)(m3:(m==3)=false):Met 58 #[.pointer (some ⟨g,0,none⟩),.agg (n8 k m a b ng n sa sl sc ao nk cap)] w0 W base g (none):=by
 have HS:=Sn.st c (n8 k m a b ng n sa sl sc ao nk cap)
 unfold Met
 clear c
 go_enter Tryz.func58,Tryz.ntmps58
 go_wp2
 go_ret
 exact met_no (rfl) HS.out.kt
end Go.Proofs.YtbbeciofgnkggaaGreatDoor.tre
namespace Go.Proofs.YtbbeciofgnkggaaGreatDoor.tre
open Go.RowKit nod
open rng(R RV ret_int ret_bool below_drewN info_parts own_below')
open tok(PEnv TX printL)
structure SW(w0 W:World)(base g z:Nat)(box:Array Value)(p:Nat)(lx:Array Value)(q:Nat)(rx:Array Value)(s:Wr)(w':World):Prop where
 sn:Sn w0 W base g z box s w'
 bl:Bk w' p lx 25
 br:Bk w' q rx 25
theorem SW.quiet{w0 W w' w'':World}{base g z p q:Nat}{box lx rx:Array Value}{s:Wr}(S:SW w0 W base g z box p lx q rx s w')(d:Below w'.heap.size w' w''):SW w0 W base g z box p lx q rx s w'':=
 ⟨S.sn.quiet d,S.bl.on d,S.br.on d⟩
theorem SW.wrote{w0 W w' w'':World}{base g z p q:Nat}{box lx rx:Array Value}{s s':Wr}(S:SW w0 W base g z box p lx q rx s w')(k:Kt base w' w'')(c:Cx w0 w'' base g s'):SW w0 W base g z box p lx q rx s' w'':=
 ⟨S.sn.wrote k c,Bk.kt S.bl k nodeT.1 nodeT.2.1 nodeT.2.2,Bk.kt S.br k nodeT.1 nodeT.2.1 nodeT.2.2⟩
theorem Met.s2{f:FuncId}{args:Array Value}{w0 W W':World}{base g z p q:Nat}{box lx rx:Array Value}{s:Wr}{P:Option Wr}(h:Met f args w0 W' base g P)(S:SW w0 W base g z box p lx q rx s W'):
 Calls Tryz.prog f args W' fun e w'=>e=.returned (.bool P.isSome)∧(∀s',P=some s'→Cx w0 w' base g s')∧Kt base W w':=h.mono fun e w'⟨h1,h2,h3⟩=>⟨h1,h2,S.sn.kt.trans h3⟩
theorem Met.s2_no{f:FuncId}{args:Array Value}{w0 W W':World}{base g z p q:Nat}{box lx rx:Array Value}{s:Wr}{P:Option Wr}(h:Met f args w0 W' base g P)(e:P=none)(S:SW w0 W base g z box p lx q rx s W'):
 Calls Tryz.prog f args W' fun e w'=>e=.returned (.bool false)∧Kt base W w':=(h.no e).mono fun e w'⟨h1,h3⟩=>⟨h1,S.sn.kt.trans h3⟩
theorem Met.s2_ok{f:FuncId}{args:Array Value}{w0 W W':World}{base g z p q:Nat}{box lx rx:Array Value}{s s':Wr}{P:Option Wr}(h:Met f args w0 W' base g P)(e:P=some s')(S:SW w0 W base g z box p lx q rx s W'):
 Calls Tryz.prog f args W' fun e w'=>e=.returned (.bool true)∧SW w0 W base g z box p lx q rx s' w':=(h.ok e).mono fun e w'⟨h1,h2,h3⟩=>⟨h1,S.wrote h3 h2⟩
theorem quiet2{f:FuncId}{args:Array Value}{v:Value}{w0 W W':World}{base g z p q:Nat}{box lx rx:Array Value}{s:Wr}(S:SW w0 W base g z box p lx q rx s W')(h:Calls Tryz.prog f args W' fun e w'=>e=.returned v∧Below W'.heap.size W' w'):
 Calls Tryz.prog f args W' fun e w'=>e=.returned v∧SW w0 W base g z box p lx q rx s w':=h.mono fun e w'⟨h1,h2⟩=>⟨h1,S.quiet h2⟩
theorem two_below(W1:World)(o1 o2:Obj):Below W1.heap.size W1 ((W1.alloc o1).alloc o2).drew:=Below.drew (below2 W1 o1 o2)
theorem SW.startA{w0 W W1:World}{base g z z1:Nat}{box lx rx:Array Value}{s:Wr}(S:Sn w0 W base g z box s W1)(hz:W1.heap.size=z1):SW w0 W base g z box z1 lx (z1+1) rx s ((W1.alloc (.cells lx 25)).alloc (.cells rx 25)).drew:=by
 subst hz
 have h1:Bk ((W1.alloc (.cells lx 25)).alloc (.cells rx 25)) W1.heap.size lx 25:=(Bk.new W1 _ _).past _
 have h2:Bk ((W1.alloc (.cells lx 25)).alloc (.cells rx 25)) (W1.heap.size+1) rx 25:=bk2
 exact⟨S.quiet (two_below W1 _ _),h1,h2⟩
theorem SW.startB{w0 W W1:World}{base g z z1:Nat}{box lx rx:Array Value}{s:Wr}(S:Sn w0 W base g z box s W1)(hz:W1.heap.size=z1):SW w0 W base g z box (z1+1) lx z1 rx s ((W1.alloc (.cells rx 25)).alloc (.cells lx 25)).drew:=by
 subst hz
 have h1:Bk ((W1.alloc (.cells rx 25)).alloc (.cells lx 25)) W1.heap.size rx 25:=(Bk.new W1 _ _).past _
 have h2:Bk ((W1.alloc (.cells rx 25)).alloc (.cells lx 25)) (W1.heap.size+1) lx 25:=bk2
 exact⟨S.quiet (two_below W1 _ _),h2,h1⟩
theorem SW.sA{w0 W:World}{base g:Nat}{box:Array Value}{s:Wr}(lx rx:Array Value)(S:Sn w0 W base g W.heap.size box s (W.alloc (.cells box 25))):Hid (SW w0 W base g W.heap.size box (W.heap.size+1) lx (W.heap.size+1+1) rx s (((W.alloc (.cells box 25)).alloc (.cells lx 25)).alloc (.cells rx 25)).drew):=SW.startA S (by simp)
theorem SW.sB{w0 W:World}{base g:Nat}{box:Array Value}{s:Wr}(lx rx:Array Value)(S:Sn w0 W base g W.heap.size box s (W.alloc (.cells box 25))):Hid (SW w0 W base g W.heap.size box (W.heap.size+1+1) lx (W.heap.size+1) rx s (((W.alloc (.cells box 25)).alloc (.cells rx 25)).alloc (.cells lx 25)).drew):=SW.startB S (by simp)
abbrev Cw(w0 W:World)(base g:Nat)(box lx rx:Array Value)(s s':Wr)(f:FuncId)(args:Array Value)(v:Value):Prop:=∀p q W',SW w0 W base g W.heap.size box p lx q rx s W'→Calls Tryz.prog f args W' fun e w'=>e=.returned v∧SW w0 W base g W.heap.size box p lx q rx s' w'
theorem less_gd{s:Wr}(g:Gd s)(h:0≤s.room-2):Gd (s.less 2):=by
 obtain⟨⟨r0,r1,d0,d1,g0,g1,n1⟩,n⟩:=g
 exact⟨⟨h,by show(s.text.length:Int)+(s.room-2)≤2000;omega,d0,d1,g0,g1,n1⟩,n⟩
theorem take_s2{w0 W W':World}{base g z p q:Nat}{box lx rx:Array Value}{s:Wr}(S:SW w0 W base g z box p lx q rx s W')(h:0≤s.room-2):
  Calls Tryz.prog 48 #[.pointer (some ⟨g,0,none⟩),.int .i64 2] W' fun e w'=>e=.returned (.bool true)∧SW w0 W base g z box p lx q rx (s.less 2) w':=by
 have C:=take_any base g s 2 W' S.sn.cx.c.wr S.sn.cx.c.r0 (by have:=S.sn.cx.c.r1;omega) (by omega) (by omega)
 rw[decide_eq_true h]at C
 have gg:=less_gd S.sn.cx.gd h
 exact C.mono fun e w'⟨h1,h2,h3⟩=>⟨h1,S.wrote h3 ⟨S.sn.cx.c.to h3 h2 gg.g.r0 gg.g.r1,gg⟩⟩
theorem take_no2{w0 W W':World}{base g z p q:Nat}{box lx rx:Array Value}{s:Wr}(S:SW w0 W base g z box p lx q rx s W')(h:¬0≤s.room-2):
  Calls Tryz.prog 48 #[.pointer (some ⟨g,0,none⟩),.int .i64 2] W' fun e w'=>e=.returned (.bool false)∧Kt base W w':=by
 have C:=take_any base g s 2 W' S.sn.cx.c.wr S.sn.cx.c.r0 (by have:=S.sn.cx.c.r1;omega) (by omega) (by omega)
 rw[decide_eq_false h]at C
 exact C.mono fun e w'⟨h1,h2,h3⟩=>⟨h1,S.sn.kt.trans h3⟩
theorem write_s2{w0 W W':World}{base g z p q:Nat}{box lx rx:Array Value}{s:Wr}(S:SW w0 W base g z box p lx q rx s W')(O:ByteArray)(hO:O.size=2)(gg:Gd (s.add O)):
  Calls Tryz.prog 49 #[.pointer (some ⟨g,0,none⟩),.string O] W' fun e w'=>e=.returned (.tuple #[.int .i64 O.size,.nilIface])∧SW w0 W base g z box p lx q rx (s.add O) w':=by
 have C:=write_any base g s O W' S.sn.cx.c.wr (by have:=S.sn.cx.c.r1;have:=S.sn.cx.c.r0;omega)
 exact C.mono fun e w'⟨h1,h2,h3⟩=>⟨h1,S.wrote h3 ⟨S.sn.cx.c.to h3 h2 gg.g.r0 gg.g.r1,gg⟩⟩
theorem sides_few{w0 W:World}{base g:Nat}{s:Wr}(c:Cx w0 W base g s)(k m a b:Int)(ng:Bool)(n:ByteArray)(sa:Option Addr)(sl sc:Nat)(ao:Option Addr)(nk cap:Nat)(hk:¬(nk:Int)=2)(hk2:¬nk=2):Met 79 #[.pointer (some ⟨g,0,none⟩),.agg (n8 k m a b ng n sa sl sc ao nk cap)] w0 W base g (none):=by
 have HS:=Sn.st c (n8 k m a b ng n sa sl sc ao nk cap)
 unfold Met
 clear c
 go_enter Tryz.func79,Tryz.ntmps79
 go_wp2
 go_ret
 exact met_no (rfl) HS.out.kt
end Go.Proofs.YtbbeciofgnkggaaGreatDoor.tre
namespace Go.Proofs.YtbbeciofgnkggaaGreatDoor.tre
open Go.RowKit nod
open rng(R RV ret_int ret_bool below_drewN info_parts own_below')
open tok(PEnv TX printL)
theorem sides_l{w0 W:World}{base g:Nat}{s:Wr}(c:Cx w0 W base g s)(k m a b:Int)(ng:Bool)(n:ByteArray)(sa:Option Addr)(sl sc:Nat)(kb ko cap:Nat)(hcap:2≤cap)(lk lm la lb rk rm ra rb:Int)(lg rg:Bool)(ln rn:ByteArray)(lsa lao rsa rao:Option Addr)(lsl lsc lnk lcap rsl rsc rnk rcap:Nat)(HA:Hid (At8 w0 kb ko (.agg (n8 lk lm la lb lg ln lsa lsl lsc lao lnk lcap))))(HA2:Hid (At8 w0 kb (ko+8) (.agg (n8 rk rm ra rb rg rn rsa rsl rsc rao rnk rcap))))(hkb:kb<base)(O:ByteArray)(hO:O.size=2)(HOP:Hid (Cw w0 W base g (n8 k m a b ng n sa sl sc (some ⟨kb,ko,none⟩) 2 cap) (n8 lk lm la lb lg ln lsa lsl lsc lao lnk lcap) (n8 rk rm ra rb rg rn rsa rsl rsc rao rnk rcap) s s 97 #[.int .i64 m] (.string O)))(HSL:Hid (Cw w0 W base g (n8 k m a b ng n sa sl sc (some ⟨kb,ko,none⟩) 2 cap) (n8 lk lm la lb lg ln lsa lsl lsc lao lnk lcap) (n8 rk rm ra rb rg rn rsa rsl rsc rao rnk rcap) s s 98 #[.agg (n8 lk lm la lb lg ln lsa lsl lsc lao lnk lcap)] (.bool false))):Met 79 #[.pointer (some ⟨g,0,none⟩),.agg (n8 k m a b ng n sa sl sc (some ⟨kb,ko,none⟩) 2 cap)] w0 W base g (none):=by
 have HS:=Sn.st c (n8 k m a b ng n sa sl sc (some ⟨kb,ko,none⟩) 2 cap)
 have hgb:=c.c.size
 obtain⟨k0,k1,k2,k3,k4,k5,k6,k7⟩:=HS.out.kid HA.out hkb
 obtain⟨j0,j1,j2,j3,j4,j5,j6,j7⟩:=HS.out.kid HA2.out hkb
 have hl1:=HS.out.bk.lt
 unfold Met
 clear c
 go_enter Tryz.func79,Tryz.ntmps79
 go_wp2
 go_region_held3(fun w'=>w'.cell? ⟨W.heap.size,7,none⟩=some (.slice (some ⟨kb,ko,none⟩) 2 cap)∧w'.cell? ⟨kb,ko,none⟩=some (.int .i64 lk)∧w'.cell? ⟨kb,ko+1,none⟩=some (.int .i64 lm)∧w'.cell? ⟨kb,ko+2,none⟩=some (.int .i64 la)∧w'.cell? ⟨kb,ko+3,none⟩=some (.int .i64 lb)∧w'.cell? ⟨kb,ko+4,none⟩=some (.bool lg)∧w'.cell? ⟨kb,ko+5,none⟩=some (.string ln)∧w'.cell? ⟨kb,ko+6,none⟩=some (.slice lsa lsl lsc)∧w'.cell? ⟨kb,ko+7,none⟩=some (.slice lao lnk lcap)∧w'.cell? ⟨kb,ko+8,none⟩=some (.int .i64 rk)∧w'.cell? ⟨kb,ko+8+1,none⟩=some (.int .i64 rm)∧w'.cell? ⟨kb,ko+8+2,none⟩=some (.int .i64 ra)∧w'.cell? ⟨kb,ko+8+3,none⟩=some (.int .i64 rb)∧w'.cell? ⟨kb,ko+8+4,none⟩=some (.bool rg)∧w'.cell? ⟨kb,ko+8+5,none⟩=some (.string rn)∧w'.cell? ⟨kb,ko+8+6,none⟩=some (.slice rsa rsl rsc)∧w'.cell? ⟨kb,ko+8+7,none⟩=some (.slice rao rnk rcap))(go_keep)(fail)
 ·clear k0 k1 k2 k3 k4 k5 k6 k7 j0 j1 j2 j3 j4 j5 j6 j7
  have HT0:=SW.sA (n8 lk lm la lb lg ln lsa lsl lsc lao lnk lcap) (n8 rk rm ra rb rg rn rsa rsl rsc rao rnk rcap) HS.out
  go_wp2_with(first
   |(go_at_call 97;refine(HOP.out _ _ _ HT0.out).mono ?_;rintro e w1⟨rfl,d⟩;have HT3:Hid (SW w0 W base g W.heap.size (n8 k m a b ng n sa sl sc (some ⟨kb,ko,none⟩) 2 cap) (W.heap.size+1) (n8 lk lm la lb lg ln lsa lsl lsc lao lnk lcap) (W.heap.size+1+1) (n8 rk rm ra rb rg rn rsa rsl rsc rao rnk rcap) s w1):=d;obtain⟨xl0,xl1,xl2,xl3,xl4,xl5,xl6,xl7⟩:=Bk.c8 d.bl;obtain⟨xr0,xr1,xr2,xr3,xr4,xr5,xr6,xr7⟩:=Bk.c8 d.br;clear d)
   |(go_at_call_of 98(Value.string ln);refine(HSL.out _ _ _ HT3.out).mono ?_;rintro e w2⟨rfl,d⟩;have HT4:Hid (SW w0 W base g W.heap.size (n8 k m a b ng n sa sl sc (some ⟨kb,ko,none⟩) 2 cap) (W.heap.size+1) (n8 lk lm la lb lg ln lsa lsl lsc lao lnk lcap) (W.heap.size+1+1) (n8 rk rm ra rb rg rn rsa rsl rsc rao rnk rcap) s w2):=d;obtain⟨xl0,xl1,xl2,xl3,xl4,xl5,xl6,xl7⟩:=Bk.c8 d.bl;obtain⟨xr0,xr1,xr2,xr3,xr4,xr5,xr6,xr7⟩:=Bk.c8 d.br;clear d))
  go_ret
  exact met_no rfl HT4.out.sn.kt
 ·clear k0 k1 k2 k3 k4 k5 k6 k7 j0 j1 j2 j3 j4 j5 j6 j7
  have HT0:=SW.sB (n8 lk lm la lb lg ln lsa lsl lsc lao lnk lcap) (n8 rk rm ra rb rg rn rsa rsl rsc rao rnk rcap) HS.out
  go_wp2_with(first
   |(go_at_call 97;refine(HOP.out _ _ _ HT0.out).mono ?_;rintro e w1⟨rfl,d⟩;have HT3:Hid (SW w0 W base g W.heap.size (n8 k m a b ng n sa sl sc (some ⟨kb,ko,none⟩) 2 cap) (W.heap.size+1+1) (n8 lk lm la lb lg ln lsa lsl lsc lao lnk lcap) (W.heap.size+1) (n8 rk rm ra rb rg rn rsa rsl rsc rao rnk rcap) s w1):=d;obtain⟨xl0,xl1,xl2,xl3,xl4,xl5,xl6,xl7⟩:=Bk.c8 d.bl;obtain⟨xr0,xr1,xr2,xr3,xr4,xr5,xr6,xr7⟩:=Bk.c8 d.br;clear d)
   |(go_at_call_of 98(Value.string ln);refine(HSL.out _ _ _ HT3.out).mono ?_;rintro e w2⟨rfl,d⟩;have HT4:Hid (SW w0 W base g W.heap.size (n8 k m a b ng n sa sl sc (some ⟨kb,ko,none⟩) 2 cap) (W.heap.size+1+1) (n8 lk lm la lb lg ln lsa lsl lsc lao lnk lcap) (W.heap.size+1) (n8 rk rm ra rb rg rn rsa rsl rsc rao rnk rcap) s w2):=d;obtain⟨xl0,xl1,xl2,xl3,xl4,xl5,xl6,xl7⟩:=Bk.c8 d.bl;obtain⟨xr0,xr1,xr2,xr3,xr4,xr5,xr6,xr7⟩:=Bk.c8 d.br;clear d))
  go_ret
  exact met_no rfl HT4.out.sn.kt
theorem sides_r{w0 W:World}{base g:Nat}{s:Wr}(c:Cx w0 W base g s)(k m a b:Int)(ng:Bool)(n:ByteArray)(sa:Option Addr)(sl sc:Nat)(kb ko cap:Nat)(hcap:2≤cap)(lk lm la lb rk rm ra rb:Int)(lg rg:Bool)(ln rn:ByteArray)(lsa lao rsa rao:Option Addr)(lsl lsc lnk lcap rsl rsc rnk rcap:Nat)(HA:Hid (At8 w0 kb ko (.agg (n8 lk lm la lb lg ln lsa lsl lsc lao lnk lcap))))(HA2:Hid (At8 w0 kb (ko+8) (.agg (n8 rk rm ra rb rg rn rsa rsl rsc rao rnk rcap))))(hkb:kb<base)(O:ByteArray)(hO:O.size=2)(HOP:Hid (Cw w0 W base g (n8 k m a b ng n sa sl sc (some ⟨kb,ko,none⟩) 2 cap) (n8 lk lm la lb lg ln lsa lsl lsc lao lnk lcap) (n8 rk rm ra rb rg rn rsa rsl rsc rao rnk rcap) s s 97 #[.int .i64 m] (.string O)))(HSL:Hid (Cw w0 W base g (n8 k m a b ng n sa sl sc (some ⟨kb,ko,none⟩) 2 cap) (n8 lk lm la lb lg ln lsa lsl lsc lao lnk lcap) (n8 rk rm ra rb rg rn rsa rsl rsc rao rnk rcap) s s 98 #[.agg (n8 lk lm la lb lg ln lsa lsl lsc lao lnk lcap)] (.bool true)))(HSR:Hid (Cw w0 W base g (n8 k m a b ng n sa sl sc (some ⟨kb,ko,none⟩) 2 cap) (n8 lk lm la lb lg ln lsa lsl lsc lao lnk lcap) (n8 rk rm ra rb rg rn rsa rsl rsc rao rnk rcap) s s 98 #[.agg (n8 rk rm ra rb rg rn rsa rsl rsc rao rnk rcap)] (.bool false))):Met 79 #[.pointer (some ⟨g,0,none⟩),.agg (n8 k m a b ng n sa sl sc (some ⟨kb,ko,none⟩) 2 cap)] w0 W base g (none):=by
 have HS:=Sn.st c (n8 k m a b ng n sa sl sc (some ⟨kb,ko,none⟩) 2 cap)
 have hgb:=c.c.size
 obtain⟨k0,k1,k2,k3,k4,k5,k6,k7⟩:=HS.out.kid HA.out hkb
 obtain⟨j0,j1,j2,j3,j4,j5,j6,j7⟩:=HS.out.kid HA2.out hkb
 have hl1:=HS.out.bk.lt
 unfold Met
 clear c
 go_enter Tryz.func79,Tryz.ntmps79
 go_wp2
 go_region_held3(fun w'=>w'.cell? ⟨W.heap.size,7,none⟩=some (.slice (some ⟨kb,ko,none⟩) 2 cap)∧w'.cell? ⟨kb,ko,none⟩=some (.int .i64 lk)∧w'.cell? ⟨kb,ko+1,none⟩=some (.int .i64 lm)∧w'.cell? ⟨kb,ko+2,none⟩=some (.int .i64 la)∧w'.cell? ⟨kb,ko+3,none⟩=some (.int .i64 lb)∧w'.cell? ⟨kb,ko+4,none⟩=some (.bool lg)∧w'.cell? ⟨kb,ko+5,none⟩=some (.string ln)∧w'.cell? ⟨kb,ko+6,none⟩=some (.slice lsa lsl lsc)∧w'.cell? ⟨kb,ko+7,none⟩=some (.slice lao lnk lcap)∧w'.cell? ⟨kb,ko+8,none⟩=some (.int .i64 rk)∧w'.cell? ⟨kb,ko+8+1,none⟩=some (.int .i64 rm)∧w'.cell? ⟨kb,ko+8+2,none⟩=some (.int .i64 ra)∧w'.cell? ⟨kb,ko+8+3,none⟩=some (.int .i64 rb)∧w'.cell? ⟨kb,ko+8+4,none⟩=some (.bool rg)∧w'.cell? ⟨kb,ko+8+5,none⟩=some (.string rn)∧w'.cell? ⟨kb,ko+8+6,none⟩=some (.slice rsa rsl rsc)∧w'.cell? ⟨kb,ko+8+7,none⟩=some (.slice rao rnk rcap))(go_keep)(fail)
 ·clear k0 k1 k2 k3 k4 k5 k6 k7 j0 j1 j2 j3 j4 j5 j6 j7
  have HT0:=SW.sA (n8 lk lm la lb lg ln lsa lsl lsc lao lnk lcap) (n8 rk rm ra rb rg rn rsa rsl rsc rao rnk rcap) HS.out
  go_wp2_with(first
   |(go_at_call 97;refine(HOP.out _ _ _ HT0.out).mono ?_;rintro e w1⟨rfl,d⟩;have HT3:Hid (SW w0 W base g W.heap.size (n8 k m a b ng n sa sl sc (some ⟨kb,ko,none⟩) 2 cap) (W.heap.size+1) (n8 lk lm la lb lg ln lsa lsl lsc lao lnk lcap) (W.heap.size+1+1) (n8 rk rm ra rb rg rn rsa rsl rsc rao rnk rcap) s w1):=d;obtain⟨xl0,xl1,xl2,xl3,xl4,xl5,xl6,xl7⟩:=Bk.c8 d.bl;obtain⟨xr0,xr1,xr2,xr3,xr4,xr5,xr6,xr7⟩:=Bk.c8 d.br;clear d)
   |(go_at_call_of 98(Value.string ln);refine(HSL.out _ _ _ HT3.out).mono ?_;rintro e w2⟨rfl,d⟩;have HT4:Hid (SW w0 W base g W.heap.size (n8 k m a b ng n sa sl sc (some ⟨kb,ko,none⟩) 2 cap) (W.heap.size+1) (n8 lk lm la lb lg ln lsa lsl lsc lao lnk lcap) (W.heap.size+1+1) (n8 rk rm ra rb rg rn rsa rsl rsc rao rnk rcap) s w2):=d;obtain⟨xl0,xl1,xl2,xl3,xl4,xl5,xl6,xl7⟩:=Bk.c8 d.bl;obtain⟨xr0,xr1,xr2,xr3,xr4,xr5,xr6,xr7⟩:=Bk.c8 d.br;clear d)
   |(go_at_call_of 98(Value.string rn);refine(HSR.out _ _ _ HT4.out).mono ?_;rintro e w3⟨rfl,d⟩;have HT5:Hid (SW w0 W base g W.heap.size (n8 k m a b ng n sa sl sc (some ⟨kb,ko,none⟩) 2 cap) (W.heap.size+1) (n8 lk lm la lb lg ln lsa lsl lsc lao lnk lcap) (W.heap.size+1+1) (n8 rk rm ra rb rg rn rsa rsl rsc rao rnk rcap) s w3):=d;obtain⟨xl0,xl1,xl2,xl3,xl4,xl5,xl6,xl7⟩:=Bk.c8 d.bl;obtain⟨xr0,xr1,xr2,xr3,xr4,xr5,xr6,xr7⟩:=Bk.c8 d.br;clear d))
  go_ret
  exact met_no rfl HT5.out.sn.kt
 ·clear k0 k1 k2 k3 k4 k5 k6 k7 j0 j1 j2 j3 j4 j5 j6 j7
  have HT0:=SW.sB (n8 lk lm la lb lg ln lsa lsl lsc lao lnk lcap) (n8 rk rm ra rb rg rn rsa rsl rsc rao rnk rcap) HS.out
  go_wp2_with(first
   |(go_at_call 97;refine(HOP.out _ _ _ HT0.out).mono ?_;rintro e w1⟨rfl,d⟩;have HT3:Hid (SW w0 W base g W.heap.size (n8 k m a b ng n sa sl sc (some ⟨kb,ko,none⟩) 2 cap) (W.heap.size+1+1) (n8 lk lm la lb lg ln lsa lsl lsc lao lnk lcap) (W.heap.size+1) (n8 rk rm ra rb rg rn rsa rsl rsc rao rnk rcap) s w1):=d;obtain⟨xl0,xl1,xl2,xl3,xl4,xl5,xl6,xl7⟩:=Bk.c8 d.bl;obtain⟨xr0,xr1,xr2,xr3,xr4,xr5,xr6,xr7⟩:=Bk.c8 d.br;clear d)
   |(go_at_call_of 98(Value.string ln);refine(HSL.out _ _ _ HT3.out).mono ?_;rintro e w2⟨rfl,d⟩;have HT4:Hid (SW w0 W base g W.heap.size (n8 k m a b ng n sa sl sc (some ⟨kb,ko,none⟩) 2 cap) (W.heap.size+1+1) (n8 lk lm la lb lg ln lsa lsl lsc lao lnk lcap) (W.heap.size+1) (n8 rk rm ra rb rg rn rsa rsl rsc rao rnk rcap) s w2):=d;obtain⟨xl0,xl1,xl2,xl3,xl4,xl5,xl6,xl7⟩:=Bk.c8 d.bl;obtain⟨xr0,xr1,xr2,xr3,xr4,xr5,xr6,xr7⟩:=Bk.c8 d.br;clear d)
   |(go_at_call_of 98(Value.string rn);refine(HSR.out _ _ _ HT4.out).mono ?_;rintro e w3⟨rfl,d⟩;have HT5:Hid (SW w0 W base g W.heap.size (n8 k m a b ng n sa sl sc (some ⟨kb,ko,none⟩) 2 cap) (W.heap.size+1+1) (n8 lk lm la lb lg ln lsa lsl lsc lao lnk lcap) (W.heap.size+1) (n8 rk rm ra rb rg rn rsa rsl rsc rao rnk rcap) s w3):=d;obtain⟨xl0,xl1,xl2,xl3,xl4,xl5,xl6,xl7⟩:=Bk.c8 d.bl;obtain⟨xr0,xr1,xr2,xr3,xr4,xr5,xr6,xr7⟩:=Bk.c8 d.br;clear d))
  go_ret
  exact met_no rfl HT5.out.sn.kt
theorem sides_m{w0 W:World}{base g:Nat}{s:Wr}(c:Cx w0 W base g s)(k m a b:Int)(ng:Bool)(n:ByteArray)(sa:Option Addr)(sl sc:Nat)(kb ko cap:Nat)(hcap:2≤cap)(lk lm la lb rk rm ra rb:Int)(lg rg:Bool)(ln rn:ByteArray)(lsa lao rsa rao:Option Addr)(lsl lsc lnk lcap rsl rsc rnk rcap:Nat)(HA:Hid (At8 w0 kb ko (.agg (n8 lk lm la lb lg ln lsa lsl lsc lao lnk lcap))))(HA2:Hid (At8 w0 kb (ko+8) (.agg (n8 rk rm ra rb rg rn rsa rsl rsc rao rnk rcap))))(hkb:kb<base)(O:ByteArray)(hO:O.size=2)(HOP:Hid (Cw w0 W base g (n8 k m a b ng n sa sl sc (some ⟨kb,ko,none⟩) 2 cap) (n8 lk lm la lb lg ln lsa lsl lsc lao lnk lcap) (n8 rk rm ra rb rg rn rsa rsl rsc rao rnk rcap) s s 97 #[.int .i64 m] (.string O)))(HSL:Hid (Cw w0 W base g (n8 k m a b ng n sa sl sc (some ⟨kb,ko,none⟩) 2 cap) (n8 lk lm la lb lg ln lsa lsl lsc lao lnk lcap) (n8 rk rm ra rb rg rn rsa rsl rsc rao rnk rcap) s s 98 #[.agg (n8 lk lm la lb lg ln lsa lsl lsc lao lnk lcap)] (.bool true)))(HSR:Hid (Cw w0 W base g (n8 k m a b ng n sa sl sc (some ⟨kb,ko,none⟩) 2 cap) (n8 lk lm la lb lg ln lsa lsl lsc lao lnk lcap) (n8 rk rm ra rb rg rn rsa rsl rsc rao rnk rcap) s s 98 #[.agg (n8 rk rm ra rb rg rn rsa rsl rsc rao rnk rcap)] (.bool true)))(hm:¬rm=0):Met 79 #[.pointer (some ⟨g,0,none⟩),.agg (n8 k m a b ng n sa sl sc (some ⟨kb,ko,none⟩) 2 cap)] w0 W base g (none):=by
 have HS:=Sn.st c (n8 k m a b ng n sa sl sc (some ⟨kb,ko,none⟩) 2 cap)
 have hgb:=c.c.size
 obtain⟨k0,k1,k2,k3,k4,k5,k6,k7⟩:=HS.out.kid HA.out hkb
 obtain⟨j0,j1,j2,j3,j4,j5,j6,j7⟩:=HS.out.kid HA2.out hkb
 have hl1:=HS.out.bk.lt
 unfold Met
 clear c
 go_enter Tryz.func79,Tryz.ntmps79
 go_wp2
 go_region_held3(fun w'=>w'.cell? ⟨W.heap.size,7,none⟩=some (.slice (some ⟨kb,ko,none⟩) 2 cap)∧w'.cell? ⟨kb,ko,none⟩=some (.int .i64 lk)∧w'.cell? ⟨kb,ko+1,none⟩=some (.int .i64 lm)∧w'.cell? ⟨kb,ko+2,none⟩=some (.int .i64 la)∧w'.cell? ⟨kb,ko+3,none⟩=some (.int .i64 lb)∧w'.cell? ⟨kb,ko+4,none⟩=some (.bool lg)∧w'.cell? ⟨kb,ko+5,none⟩=some (.string ln)∧w'.cell? ⟨kb,ko+6,none⟩=some (.slice lsa lsl lsc)∧w'.cell? ⟨kb,ko+7,none⟩=some (.slice lao lnk lcap)∧w'.cell? ⟨kb,ko+8,none⟩=some (.int .i64 rk)∧w'.cell? ⟨kb,ko+8+1,none⟩=some (.int .i64 rm)∧w'.cell? ⟨kb,ko+8+2,none⟩=some (.int .i64 ra)∧w'.cell? ⟨kb,ko+8+3,none⟩=some (.int .i64 rb)∧w'.cell? ⟨kb,ko+8+4,none⟩=some (.bool rg)∧w'.cell? ⟨kb,ko+8+5,none⟩=some (.string rn)∧w'.cell? ⟨kb,ko+8+6,none⟩=some (.slice rsa rsl rsc)∧w'.cell? ⟨kb,ko+8+7,none⟩=some (.slice rao rnk rcap))(go_keep)(fail)
 ·clear k0 k1 k2 k3 k4 k5 k6 k7 j0 j1 j2 j3 j4 j5 j6 j7
  have HT0:=SW.sA (n8 lk lm la lb lg ln lsa lsl lsc lao lnk lcap) (n8 rk rm ra rb rg rn rsa rsl rsc rao rnk rcap) HS.out
  go_wp2_with(first
   |(go_at_call 97;refine(HOP.out _ _ _ HT0.out).mono ?_;rintro e w1⟨rfl,d⟩;have HT3:Hid (SW w0 W base g W.heap.size (n8 k m a b ng n sa sl sc (some ⟨kb,ko,none⟩) 2 cap) (W.heap.size+1) (n8 lk lm la lb lg ln lsa lsl lsc lao lnk lcap) (W.heap.size+1+1) (n8 rk rm ra rb rg rn rsa rsl rsc rao rnk rcap) s w1):=d;obtain⟨xl0,xl1,xl2,xl3,xl4,xl5,xl6,xl7⟩:=Bk.c8 d.bl;obtain⟨xr0,xr1,xr2,xr3,xr4,xr5,xr6,xr7⟩:=Bk.c8 d.br;clear d)
   |(go_at_call_of 98(Value.string ln);refine(HSL.out _ _ _ HT3.out).mono ?_;rintro e w2⟨rfl,d⟩;have HT4:Hid (SW w0 W base g W.heap.size (n8 k m a b ng n sa sl sc (some ⟨kb,ko,none⟩) 2 cap) (W.heap.size+1) (n8 lk lm la lb lg ln lsa lsl lsc lao lnk lcap) (W.heap.size+1+1) (n8 rk rm ra rb rg rn rsa rsl rsc rao rnk rcap) s w2):=d;obtain⟨xl0,xl1,xl2,xl3,xl4,xl5,xl6,xl7⟩:=Bk.c8 d.bl;obtain⟨xr0,xr1,xr2,xr3,xr4,xr5,xr6,xr7⟩:=Bk.c8 d.br;clear d)
   |(go_at_call_of 98(Value.string rn);refine(HSR.out _ _ _ HT4.out).mono ?_;rintro e w3⟨rfl,d⟩;have HT5:Hid (SW w0 W base g W.heap.size (n8 k m a b ng n sa sl sc (some ⟨kb,ko,none⟩) 2 cap) (W.heap.size+1) (n8 lk lm la lb lg ln lsa lsl lsc lao lnk lcap) (W.heap.size+1+1) (n8 rk rm ra rb rg rn rsa rsl rsc rao rnk rcap) s w3):=d;obtain⟨xl0,xl1,xl2,xl3,xl4,xl5,xl6,xl7⟩:=Bk.c8 d.bl;obtain⟨xr0,xr1,xr2,xr3,xr4,xr5,xr6,xr7⟩:=Bk.c8 d.br;clear d))
  go_ret
  exact met_no rfl HT5.out.sn.kt
 ·clear k0 k1 k2 k3 k4 k5 k6 k7 j0 j1 j2 j3 j4 j5 j6 j7
  have HT0:=SW.sB (n8 lk lm la lb lg ln lsa lsl lsc lao lnk lcap) (n8 rk rm ra rb rg rn rsa rsl rsc rao rnk rcap) HS.out
  go_wp2_with(first
   |(go_at_call 97;refine(HOP.out _ _ _ HT0.out).mono ?_;rintro e w1⟨rfl,d⟩;have HT3:Hid (SW w0 W base g W.heap.size (n8 k m a b ng n sa sl sc (some ⟨kb,ko,none⟩) 2 cap) (W.heap.size+1+1) (n8 lk lm la lb lg ln lsa lsl lsc lao lnk lcap) (W.heap.size+1) (n8 rk rm ra rb rg rn rsa rsl rsc rao rnk rcap) s w1):=d;obtain⟨xl0,xl1,xl2,xl3,xl4,xl5,xl6,xl7⟩:=Bk.c8 d.bl;obtain⟨xr0,xr1,xr2,xr3,xr4,xr5,xr6,xr7⟩:=Bk.c8 d.br;clear d)
   |(go_at_call_of 98(Value.string ln);refine(HSL.out _ _ _ HT3.out).mono ?_;rintro e w2⟨rfl,d⟩;have HT4:Hid (SW w0 W base g W.heap.size (n8 k m a b ng n sa sl sc (some ⟨kb,ko,none⟩) 2 cap) (W.heap.size+1+1) (n8 lk lm la lb lg ln lsa lsl lsc lao lnk lcap) (W.heap.size+1) (n8 rk rm ra rb rg rn rsa rsl rsc rao rnk rcap) s w2):=d;obtain⟨xl0,xl1,xl2,xl3,xl4,xl5,xl6,xl7⟩:=Bk.c8 d.bl;obtain⟨xr0,xr1,xr2,xr3,xr4,xr5,xr6,xr7⟩:=Bk.c8 d.br;clear d)
   |(go_at_call_of 98(Value.string rn);refine(HSR.out _ _ _ HT4.out).mono ?_;rintro e w3⟨rfl,d⟩;have HT5:Hid (SW w0 W base g W.heap.size (n8 k m a b ng n sa sl sc (some ⟨kb,ko,none⟩) 2 cap) (W.heap.size+1+1) (n8 lk lm la lb lg ln lsa lsl lsc lao lnk lcap) (W.heap.size+1) (n8 rk rm ra rb rg rn rsa rsl rsc rao rnk rcap) s w3):=d;obtain⟨xl0,xl1,xl2,xl3,xl4,xl5,xl6,xl7⟩:=Bk.c8 d.bl;obtain⟨xr0,xr1,xr2,xr3,xr4,xr5,xr6,xr7⟩:=Bk.c8 d.br;clear d))
  go_ret
  exact met_no rfl HT5.out.sn.kt
end Go.Proofs.YtbbeciofgnkggaaGreatDoor.tre
